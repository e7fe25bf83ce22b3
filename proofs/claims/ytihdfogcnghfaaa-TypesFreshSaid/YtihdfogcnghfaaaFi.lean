import Derived.Test.YtihdfogcnghfaaaFh
set_option linter.unusedVariables false
namespace Go.Proofs.Ytihdfogcnghfaaa
open Go.RowKit
/-! GetSig. -/
set_option maxHeartbeats 1000000 in
theorem getsig_any (n : Nat) (l : List Int) (i : Int) (hn : n ≤ 281474976710656) (hl : l.length = n) (hr : rng l) : SGetSaid 24 n l i (gSig l i) := by
  intro w A c B hrd hc hB
  subst hl
  have HR := Lib.hid (fun w => getret_any l.length l i hn rfl hr w A c B)
  have HV := Lib.hid hrd
  clear hrd
  rcases gSig_ways l i hr with ⟨E, hE, hg, hs⟩ | ⟨k, cl, x, hg, hty, hi, hx, hmt, hk0, hrest⟩
  · rw [hs]
    rw [hg] at HR
    have hne : (E != 0) = true := by simpa using hE
    clear hs hg hE hr
    go_enter Try.func24, Try.ntmps24
    go_wp2_with fail
    refine (HR.out _ (HV.out.alloc hB _) hc (by simp; omega)).mono ?_
    rintro e w1 ⟨rfl, hb1⟩
    obtain ⟨X1, z1, B1⟩ := Blk.box hb1
    have g0 : w1.cell? ⟨w.heap.size, 0, none⟩ = some (.slice none 0 0) := X1.cell 0
    have g1 : w1.cell? ⟨w.heap.size, 1, none⟩ = some (.int .u8 0) := X1.cell 1
    have g2 : w1.cell? ⟨w.heap.size, 2, none⟩ = some (.int .u16 0) := X1.cell 2
    have f0 := X1.froz 0
    have f1 := X1.froz 1
    have f2 := X1.froz 2
    clear X1 hb1
    go_wp2_with fail
    exact bodyPost_ret (v := .tuple #[.agg #[.slice none 0 0, .int .u8 0, .int .u16 0], .int .i64 0, .int .i64 E]) (by simp [results, Try.results24, go_sem, g0, g1, g2, z1]) rfl ⟨none, 0, rfl, OV.nil_, (((B1.setCell (p := ⟨w.heap.size, 0, none⟩) (Nat.le_refl _) _).setCell (p := ⟨w.heap.size, 1, none⟩) (Nat.le_refl _) _).setCell (p := ⟨w.heap.size, 2, none⟩) (Nat.le_refl _) _).alloc (by simp [World.setCell]; omega) _⟩
  · rw [hg] at HR
    have HK := Lib.hid hty
    rcases hrest with ⟨h1, hs⟩ | ⟨m, h1, hm, h256, ⟨h2, hs⟩ | ⟨h2, E, hE, ht, hs⟩ | ⟨h2, ts, y, ht, hs⟩⟩
    · rw [hs]
      have HG := Lib.hid (fun w (hr : Rd w B A l.length l) => get_short A l.length c x 1 w hc hn (.inl rfl) (by omega) (by omega) (by omega))
      clear hs hg hr hmt hk0 hty h1
      go_enter Try.func24, Try.ntmps24
      go_wp2_with fail
      refine (HR.out _ (HV.out.alloc hB _) hc (by simp; omega)).mono ?_
      rintro e w1 ⟨rfl, hb1⟩
      obtain ⟨X1, z1, B1⟩ := Blk.box hb1
      have g0 : w1.cell? ⟨w.heap.size, 0, none⟩ = some (.slice none 0 0) := X1.cell 0
      have g1 : w1.cell? ⟨w.heap.size, 1, none⟩ = some (.int .u8 0) := X1.cell 1
      have g2 : w1.cell? ⟨w.heap.size, 2, none⟩ = some (.int .u16 0) := X1.cell 2
      have f0 := X1.froz 0
      have f1 := X1.froz 1
      have f2 := X1.froz 2
      clear hb1
      go_wp2_with fail
      refine (HG.out _ ((HV.out.below B1 hB).alloc (by omega) _)).mono ?_
      rintro e w2 ⟨rfl, rfl⟩
      go_wp2_with fail
      exact bodyPost_ret (v := .tuple #[.agg #[.slice none 0 0, .int .u8 0, .int .u16 0], .int .i64 0, .int .i64 4]) (by simp [results, Try.results24, go_sem, g0, g1, g2, z1]) rfl ⟨none, 0, rfl, OV.nil_, (((B1.setCell (p := ⟨w.heap.size, 0, none⟩) (Nat.le_refl _) _).setCell (p := ⟨w.heap.size, 1, none⟩) (Nat.le_refl _) _).setCell (p := ⟨w.heap.size, 2, none⟩) (Nat.le_refl _) _).alloc (by simp [World.setCell]; omega) _⟩
    · rw [hs]
      have HG := Lib.hid (fun w (hr : Rd w B A l.length l) => get_ok A l.length c B x 1 l w hc hn hr (.inl rfl) (by omega))
      rw [numd_1 l x h1, hm] at HG
      clear hs hg hr hmt hk0 hty hm
      have h2' : (15 : Int) < m := by omega
      go_enter Try.func24, Try.ntmps24
      go_wp2_with fail
      refine (HR.out _ (HV.out.alloc hB _) hc (by simp; omega)).mono ?_
      rintro e w1 ⟨rfl, hb1⟩
      obtain ⟨X1, z1, B1⟩ := Blk.box hb1
      have g0 : w1.cell? ⟨w.heap.size, 0, none⟩ = some (.slice none 0 0) := X1.cell 0
      have g1 : w1.cell? ⟨w.heap.size, 1, none⟩ = some (.int .u8 0) := X1.cell 1
      have g2 : w1.cell? ⟨w.heap.size, 2, none⟩ = some (.int .u16 0) := X1.cell 2
      have f0 := X1.froz 0
      have f1 := X1.froz 1
      have f2 := X1.froz 2
      clear hb1
      go_wp2_with fail
      refine (HG.out _ ((HV.out.below B1 hB).alloc (by omega) _)).mono ?_
      rintro e w2 ⟨rfl, rfl⟩
      go_wp2_with fail
      exact bodyPost_ret (v := .tuple #[.agg #[.slice none 0 0, .int .u8 0, .int .u16 0], .int .i64 0, .int .i64 5]) (by simp [results, Try.results24, go_sem, g0, g1, g2, z1]) rfl ⟨none, 0, rfl, OV.nil_, (((B1.setCell (p := ⟨w.heap.size, 0, none⟩) (Nat.le_refl _) _).setCell (p := ⟨w.heap.size, 1, none⟩) (Nat.le_refl _) _).setCell (p := ⟨w.heap.size, 2, none⟩) (Nat.le_refl _) _).alloc (by simp [World.setCell]; omega) _⟩
    · rw [hs]
      have HG := Lib.hid (fun w (hr : Rd w B A l.length l) => get_ok A l.length c B x 1 l w hc hn hr (.inl rfl) (by omega))
      rw [numd_1 l x h1, hm] at HG
      have hne : (E != 0) = true := by simpa using hE
      have HT := Lib.hid (fun w (hrd : Rd w B A l.length l) (hB : B ≤ w.heap.size) => gettypes_any l.length l ((x : Int) + 1) m (by omega) hn rfl hr w A c B hrd hc hB)
      rw [ht] at HT
      clear hs hg hr hmt hk0 hty hm ht hE
      have h2' : ¬ (15 : Int) < m := by omega
      go_enter Try.func24, Try.ntmps24
      go_wp2_with fail
      refine (HR.out _ (HV.out.alloc hB _) hc (by simp; omega)).mono ?_
      rintro e w1 ⟨rfl, hb1⟩
      obtain ⟨X1, z1, B1⟩ := Blk.box hb1
      have g0 : w1.cell? ⟨w.heap.size, 0, none⟩ = some (.slice none 0 0) := X1.cell 0
      have g1 : w1.cell? ⟨w.heap.size, 1, none⟩ = some (.int .u8 0) := X1.cell 1
      have g2 : w1.cell? ⟨w.heap.size, 2, none⟩ = some (.int .u16 0) := X1.cell 2
      have f0 := X1.froz 0
      have f1 := X1.froz 1
      have f2 := X1.froz 2
      clear hb1
      go_wp2_with fail
      refine (HG.out _ ((HV.out.below B1 hB).alloc (by omega) _)).mono ?_
      rintro e w2 ⟨rfl, rfl⟩
      go_wp2_with fail
      refine (HT.out _ ((HV.out.below B1 hB).alloc (by omega) _) (by simp; omega)).mono ?_
      rintro e w3 ⟨A3, d3, rfl, ho3, hb3⟩
      have X3 := (X1.alloc _).below hb3
      have z3 : w.heap.size < w3.heap.size := X3.lt
      have B3 := (B1.alloc (Nat.le_of_lt z1) _).trans (hb3.mono (by simp; omega))
      have G0 : w3.cell? ⟨w.heap.size, 0, none⟩ = some (.slice none 0 0) := X3.cell 0
      have G1 : w3.cell? ⟨w.heap.size, 1, none⟩ = some (.int .u8 0) := X3.cell 1
      have G2 : w3.cell? ⟨w.heap.size, 2, none⟩ = some (.int .u16 0) := X3.cell 2
      have F0 := X3.froz 0
      have F1 := X3.froz 1
      have F2 := X3.froz 2
      clear X1 X3
      go_wp2_with fail
      exact bodyPost_ret (v := .tuple #[.agg #[.slice none 0 0, .int .u8 0, .int .u16 0], .int .i64 0, .int .i64 E]) (by simp [results, Try.results24, go_sem, G0, G1, G2]) rfl ⟨none, 0, rfl, OV.nil_, ((B3.setCell (p := ⟨w.heap.size, 0, none⟩) (Nat.le_refl _) _).setCell (p := ⟨w.heap.size, 1, none⟩) (Nat.le_refl _) _).setCell (p := ⟨w.heap.size, 2, none⟩) (Nat.le_refl _) _⟩
    · rw [hs]
      have HG := Lib.hid (fun w (hr : Rd w B A l.length l) => get_ok A l.length c B x 1 l w hc hn hr (.inl rfl) (by omega))
      rw [numd_1 l x h1, hm] at HG
      have HT := Lib.hid (fun w (hrd : Rd w B A l.length l) (hB : B ≤ w.heap.size) => gettypes_any l.length l ((x : Int) + 1) m (by omega) hn rfl hr w A c B hrd hc hB)
      rw [ht] at HT
      clear hs hg hr hmt hk0 hty hm ht
      have h2' : ¬ (15 : Int) < m := by omega
      go_enter Try.func24, Try.ntmps24
      go_wp2_with fail
      refine (HR.out _ (HV.out.alloc hB _) hc (by simp; omega)).mono ?_
      rintro e w1 ⟨rfl, hb1⟩
      obtain ⟨X1, z1, B1⟩ := Blk.box hb1
      have g0 : w1.cell? ⟨w.heap.size, 0, none⟩ = some (.slice none 0 0) := X1.cell 0
      have g1 : w1.cell? ⟨w.heap.size, 1, none⟩ = some (.int .u8 0) := X1.cell 1
      have g2 : w1.cell? ⟨w.heap.size, 2, none⟩ = some (.int .u16 0) := X1.cell 2
      have f0 := X1.froz 0
      have f1 := X1.froz 1
      have f2 := X1.froz 2
      clear hb1
      go_wp2_with fail
      refine (HG.out _ ((HV.out.below B1 hB).alloc (by omega) _)).mono ?_
      rintro e w2 ⟨rfl, rfl⟩
      go_wp2_with fail
      have X7 := Blk.new w1 #[.int .u8 k, .int .u16 cl] 25
      refine (HT.out _ ((HV.out.below B1 hB).alloc (by omega) _) (by simp; omega)).mono ?_
      rintro e w3 ⟨A3, d3, rfl, ho3, hb3⟩
      have X3 := (X1.alloc _).below hb3
      have X8 := X7.below hb3
      have z3 : w.heap.size < w3.heap.size := X3.lt
      have B3 := (B1.alloc (Nat.le_of_lt z1) _).trans (hb3.mono (by simp; omega))
      have G0 : w3.cell? ⟨w.heap.size, 0, none⟩ = some (.slice none 0 0) := X3.cell 0
      have G1 : w3.cell? ⟨w.heap.size, 1, none⟩ = some (.int .u8 0) := X3.cell 1
      have G2 : w3.cell? ⟨w.heap.size, 2, none⟩ = some (.int .u16 0) := X3.cell 2
      have F0 := X3.froz 0
      have F1 := X3.froz 1
      have F2 := X3.froz 2
      have K0 : w3.cell? ⟨w1.heap.size, 0, none⟩ = some (.int .u8 k) := X8.cell 0
      have K1 : w3.cell? ⟨w1.heap.size, 1, none⟩ = some (.int .u16 cl) := X8.cell 1
      have HO3 := Lib.hid ho3
      clear X1 X3 X7 X8 ho3
      go_wp2_with fail
      have ho4 := (((HO3.out.less (S' := Lt (w.heap.size + 1)) (fun j hj => by unfold Lt at *; simp; omega)).set (p := ⟨w.heap.size, 0, none⟩) (by unfold Lt; simp) (.slice A3 ts.length d3)).set (p := ⟨w.heap.size, 1, none⟩) (by unfold Lt; simp) (.int .u8 k)).set (p := ⟨w.heap.size, 2, none⟩) (by unfold Lt; simp) (.int .u16 cl)
      exact bodyPost_ret (v := .tuple #[.agg #[.slice A3 ts.length d3, .int .u8 k, .int .u16 cl], .int .i64 y, .int .i64 0]) (by simp [results, Try.results24, go_sem, G0, G1, G2]) rfl ⟨A3, d3, rfl, ho4.less (fun j hj => by unfold Lt at *; omega), ((B3.setCell (p := ⟨w.heap.size, 0, none⟩) (Nat.le_refl _) _).setCell (p := ⟨w.heap.size, 1, none⟩) (Nat.le_refl _) _).setCell (p := ⟨w.heap.size, 2, none⟩) (Nat.le_refl _) _⟩
theorem gRet_first (l : List Int) (i : Int) (hr : rng l) :
    ((i < 0 ∨ (l.length : Int) < i) ∧ gRet l i = ⟨0, 0, 0, 2⟩) ∨ (∃ j : Nat, i = j ∧ l.length = j ∧ gRet l j = ⟨0, 0, 0, 4⟩) ∨
    ∃ (j : Nat) (k : Int), i = j ∧ j < l.length ∧ l.getD j 0 = k ∧ 0 ≤ k ∧ k < 256 ∧ ((k = 0 ∧ gRet l j = ⟨0, 0, (j : Int) + 1, 0⟩) ∨ (¬ k = 0 ∧ gTy l j = gRet l j)) := by
  rcases gRet_ways l i hr with ⟨h, he⟩ | ⟨j, rfl, hj, ⟨h, he⟩ | ⟨k, h1, hk, k0, k1, ⟨h, he⟩ | ⟨h, h2, he⟩ | ⟨h, h2, h3, he⟩ | ⟨h, h2, h3, h4, he⟩⟩⟩
  · exact .inl ⟨h, he⟩
  · exact .inr (.inl ⟨j, rfl, h, he⟩)
  · exact .inr (.inr ⟨j, k, rfl, h1, hk, k0, k1, .inr ⟨by omega, by unfold gTy; rw [he, if_neg (fun h => by cases h.1)]⟩⟩)
  · by_cases hk0 : k = 0
    · subst hk0
      exact .inr (.inr ⟨j, 0, rfl, h1, hk, k0, k1, .inl ⟨rfl, he⟩⟩)
    · exact .inr (.inr ⟨j, k, rfl, h1, hk, k0, k1, .inr ⟨hk0, by unfold gTy; rw [he, if_neg (fun h => hk0 h.2)]⟩⟩)
  · exact .inr (.inr ⟨j, k, rfl, h1, hk, k0, k1, .inr ⟨(by intro h; subst h; cases h2), by unfold gTy; rw [he, if_neg (fun h => by cases h.1)]⟩⟩)
  · have hk0 : ¬ k = 0 := by intro h; subst h; cases h2
    exact .inr (.inr ⟨j, k, rfl, h1, hk, k0, k1, .inr ⟨hk0, by unfold gTy; rw [he, if_neg (fun h => hk0 h.2)]⟩⟩)
set_option maxHeartbeats 1000000 in
theorem refgetsig_any (n : Nat) (l : List Int) (i : Int) (hn : n ≤ 281474976710656) (hl : l.length = n) (hr : rng l) : SGetSaid 25 n l i (gSig l i) := by
  intro w A c B hrd hc hB
  subst hl
  have HV := Lib.hid hrd
  have HRG := Lib.hid hr
  clear hrd
  have hway := gSig_ways l i hr
  rcases gRet_first l i hr with ⟨h, he⟩ | ⟨j, rfl, h, he⟩ | ⟨j0, k0, rfl, hj, hk, hk0, hk1, hfirst⟩
  · obtain ⟨E, hE, hg, hs⟩ | ⟨_, _, _, hg, _⟩ := hway
    · rw [he] at hg
      cases hg
      rw [hs]
      have HG := Lib.hid (fun w => refget_arg A l.length c i 1 w hc hn (.inr h))
      clear he h hr hs hE
      go_enter Try.func25, Try.ntmps25
      go_wp2_with fail
      refine (HG.out _).mono ?_
      rintro e w1 ⟨rfl, rfl⟩
      go_wp2_with fail
      exact bodyPost_ret (v := .tuple #[.agg #[.slice none 0 0, .int .u8 0, .int .u16 0], .int .i64 0, .int .i64 2]) (by simp [results, Try.results25, go_sem]) rfl ⟨none, 0, rfl, OV.nil_, (Below.refl _ _).alloc (Nat.le_refl _) _⟩
    · rw [he] at hg
      cases hg
  · obtain ⟨E, hE, hg, hs⟩ | ⟨_, _, _, hg, _⟩ := hway
    · rw [he] at hg
      cases hg
      rw [hs]
      have HG := Lib.hid (fun w => refget_short A l.length c j 1 w hc hn (.inl rfl) (by omega) (by omega) (by omega))
      clear he h hr hs hE
      go_enter Try.func25, Try.ntmps25
      go_wp2_with fail
      refine (HG.out _).mono ?_
      rintro e w1 ⟨rfl, rfl⟩
      go_wp2_with fail
      exact bodyPost_ret (v := .tuple #[.agg #[.slice none 0 0, .int .u8 0, .int .u16 0], .int .i64 0, .int .i64 4]) (by simp [results, Try.results25, go_sem]) rfl ⟨none, 0, rfl, OV.nil_, (Below.refl _ _).alloc (Nat.le_refl _) _⟩
    · rw [he] at hg
      cases hg
  · have HG0 := Lib.hid (fun w (hr : Rd w B A l.length l) => refget_ok A l.length c B j0 1 l w hc hn hr (.inl rfl) (by omega))
    rw [numd_1 l j0 hj, hk] at HG0
    have HT0 := Lib.hid (fun w => reftget_any l.length l j0 hn rfl hr w A c B)
    clear hk
    obtain ⟨E, hE, hg, hs⟩ | ⟨k, cl, x, hg, hty, hi, hx, hmt, hkc, hrest⟩ := hway
    · rw [hs]
      obtain ⟨rfl, h2⟩ | ⟨h1, h2⟩ := hfirst
      · rw [h2] at hg
        cases hg
      · rw [h2, hg] at HT0
        have hne : (E != 0) = true := by simpa using hE
        have hkb : (k0 == 0) = false := by simpa using h1
        clear hs hg hr hE h2 h1
        go_enter Try.func25, Try.ntmps25
        go_wp2_with fail
        refine (HG0.out _ (HV.out.alloc hB _)).mono ?_
        rintro e w1 ⟨rfl, rfl⟩
        go_wp2_with fail
        refine (HT0.out _ ((HV.out.alloc hB _).alloc (by simp; omega) _) hc (by simp; omega)).mono ?_
        rintro e w1 ⟨rfl, hb1⟩
        have X1 := ((Blk.new w #[.slice none 0 0, .int .u8 0, .int .u16 0] 28).alloc _).below hb1
        have B1 := (((Below.refl w.heap.size w).alloc (Nat.le_refl _) _).alloc (by simp) _).trans (hb1.mono (by simp; omega))
        have z1 : w.heap.size < w1.heap.size := X1.lt
        have g0 : w1.cell? ⟨w.heap.size, 0, none⟩ = some (.slice none 0 0) := X1.cell 0
        have g1 : w1.cell? ⟨w.heap.size, 1, none⟩ = some (.int .u8 0) := X1.cell 1
        have g2 : w1.cell? ⟨w.heap.size, 2, none⟩ = some (.int .u16 0) := X1.cell 2
        have f0 := X1.froz 0
        have f1 := X1.froz 1
        have f2 := X1.froz 2
        clear hb1 X1
        go_wp2_with fail
        exact bodyPost_ret (v := .tuple #[.agg #[.slice none 0 0, .int .u8 0, .int .u16 0], .int .i64 0, .int .i64 E]) (by simp [results, Try.results25, go_sem, g0, g1, g2, z1]) rfl ⟨none, 0, rfl, OV.nil_, (((B1.setCell (p := ⟨w.heap.size, 0, none⟩) (Nat.le_refl _) _).setCell (p := ⟨w.heap.size, 1, none⟩) (Nat.le_refl _) _).setCell (p := ⟨w.heap.size, 2, none⟩) (Nat.le_refl _) _).alloc (by simp [World.setCell]; omega) _⟩
    · have hcase : (k0 = 0 ∧ k = 0 ∧ cl = 0 ∧ (x : Int) = j0 + 1) ∨ (¬ k0 = 0 ∧ gTy l j0 = ⟨k, cl, x, 0⟩) := by
        obtain ⟨rfl, h2⟩ | ⟨h1, h2⟩ := hfirst
        · rw [h2] at hg
          simp only [Got.mk.injEq] at hg
          exact .inl ⟨rfl, hg.1.symm, hg.2.1.symm, hg.2.2.1.symm⟩
        · exact .inr ⟨h1, h2.trans hg⟩
      have HCASE := Lib.hid hcase
      have HW := Lib.hid hrest
      have HTY := Lib.hid hty
      clear hcase hrest hfirst hg hmt hkc hty hr
      go_enter Try.func25, Try.ntmps25
      go_wp2_with fail
      refine (HG0.out _ (HV.out.alloc hB _)).mono ?_
      rintro e w1 ⟨rfl, rfl⟩
      go_upto_if 30 with (fail)
      go_cut [1] from 10 to 46 (fun v wx => v = .int .i64 x ∧ Blk wx w.heap.size #[.slice none 0 0, .int .u8 0, .int .u16 0] 28 ∧ Blk wx (w.heap.size + 1) #[.slice none 0 0, .int .u8 k, .int .u16 cl] 28 ∧ Below w.heap.size w wx)
      case first =>
        have Y0 := (Blk.new w #[.slice none 0 0, .int .u8 0, .int .u16 0] 28).alloc (.cells #[.slice none 0 0, .int .u8 0, .int .u16 0] 28)
        have Y1 := Blk.new (w.alloc (.cells #[.slice none 0 0, .int .u8 0, .int .u16 0] 28)) #[.slice none 0 0, .int .u8 0, .int .u16 0] 28
        have Y2 := ((Below.refl w.heap.size w).alloc (Nat.le_refl _) (.cells #[.slice none 0 0, .int .u8 0, .int .u16 0] 28)).alloc (by simp) (.cells #[.slice none 0 0, .int .u8 0, .int .u16 0] 28)
        rw [show (w.alloc (.cells #[.slice none 0 0, .int .u8 0, .int .u16 0] 28)).heap.size = w.heap.size + 1 by simp] at Y1
        have HY0 := Lib.hid Y0
        have HY1 := Lib.hid Y1
        have HY2 := Lib.hid Y2
        clear Y0 Y1 Y2
        obtain ⟨rfl, rfl, rfl, hxj⟩ | ⟨h1, h2⟩ := HCASE.out
        · have HX := Lib.hid hxj
          clear hxj
          go_wp2_with fail
          go_meet
          exact ⟨by rw [HX.out], HY0.out, HY1.out, HY2.out⟩
        · rw [h2] at HT0
          have hkb : (k0 == 0) = false := by simpa using h1
          clear h1 h2
          go_wp2_with fail
          refine (HT0.out _ ((HV.out.alloc hB _).alloc (by simp; omega) _) hc (by simp; omega)).mono ?_
          rintro e w1 ⟨rfl, hb1⟩
          have X0 := HY0.out.below hb1
          have X1 := HY1.out.below hb1
          have B1 := HY2.out.trans (hb1.mono (by simp; omega))
          have z1 : w.heap.size + 1 < w1.heap.size := by simpa using X1.lt
          have g0 : w1.cell? ⟨w.heap.size + 1, 0, none⟩ = some (.slice none 0 0) := by simpa using X1.cell 0
          have g1 : w1.cell? ⟨w.heap.size + 1, 1, none⟩ = some (.int .u8 0) := by simpa using X1.cell 1
          have g2 : w1.cell? ⟨w.heap.size + 1, 2, none⟩ = some (.int .u16 0) := by simpa using X1.cell 2
          have f0 : w1.frozen? ⟨w.heap.size + 1, 0, none⟩ = false := by simpa using X1.froz 0
          have f1 : w1.frozen? ⟨w.heap.size + 1, 1, none⟩ = false := by simpa using X1.froz 1
          have f2 : w1.frozen? ⟨w.heap.size + 1, 2, none⟩ = false := by simpa using X1.froz 2
          have HX0 := Lib.hid X0
          have HX1 := Lib.hid X1
          have HB1 := Lib.hid B1
          clear X0 X1 hb1 B1
          go_wp2_with fail
          go_meet
          exact ⟨rfl, ((HX0.out.other ⟨w.heap.size + 1, 1, none⟩ (.int .u8 k) (by simp)).other ⟨w.heap.size + 1, 2, none⟩ (.int .u16 cl) (by simp)).alloc _, ((HX1.out.set 1 (.int .u8 k)).set 2 (.int .u16 cl)).alloc _,
            (((HB1.out.setCell (p := ⟨w.heap.size + 1, 1, none⟩) (by simp) (.int .u8 k)).setCell (p := ⟨w.heap.size + 1, 2, none⟩) (by simp) (.int .u16 cl)).alloc (by simp [World.setCell]; omega) _)⟩
      case rest =>
        obtain ⟨rfl, X0, X1, B1⟩ := hcut
        have z1 : w.heap.size + 1 < wc.heap.size := X1.lt
        have g0 : wc.cell? ⟨w.heap.size, 0, none⟩ = some (.slice none 0 0) := X0.cell 0
        have g1 : wc.cell? ⟨w.heap.size, 1, none⟩ = some (.int .u8 0) := X0.cell 1
        have g2 : wc.cell? ⟨w.heap.size, 2, none⟩ = some (.int .u16 0) := X0.cell 2
        have gf0 := X0.froz 0
        have gf1 := X0.froz 1
        have gf2 := X0.froz 2
        have q0 : wc.cell? ⟨w.heap.size + 1, 0, none⟩ = some (.slice none 0 0) := X1.cell 0
        have q1 : wc.cell? ⟨w.heap.size + 1, 1, none⟩ = some (.int .u8 k) := X1.cell 1
        have q2 : wc.cell? ⟨w.heap.size + 1, 2, none⟩ = some (.int .u16 cl) := X1.cell 2
        have qf0 := X1.froz 0
        have qf1 := X1.froz 1
        have qf2 := X1.froz 2
        have HX0 := Lib.hid X0
        have HX1 := Lib.hid X1
        have HB1 := Lib.hid B1
        clear X0 X1 B1
        rcases HW.out with ⟨h1, hs⟩ | ⟨m, h1, hm, h256, ⟨h2, hs⟩ | hts⟩
        · have HS := Lib.hid hs
          have HG := Lib.hid (fun w (hr : Rd w B A l.length l) => refget_short A l.length c x 1 w hc hn (.inl rfl) (by omega) (by omega) (by omega))
          clear hs h1
          go_wp2_with fail
          refine (HG.out _ (HV.out.below HB1.out hB)).mono ?_
          rintro e w2 ⟨rfl, rfl⟩
          go_wp2_with fail
          rw [HS.out]
          exact bodyPost_ret (v := .tuple #[.agg #[.slice none 0 0, .int .u8 0, .int .u16 0], .int .i64 0, .int .i64 4]) (by simp [results, Try.results25, go_sem, g0, g1, g2]) rfl ⟨none, 0, rfl, OV.nil_, ((HB1.out.setCell (p := ⟨w.heap.size, 0, none⟩) (Nat.le_refl _) _).setCell (p := ⟨w.heap.size, 1, none⟩) (Nat.le_refl _) _).setCell (p := ⟨w.heap.size, 2, none⟩) (Nat.le_refl _) _⟩
        · have HS := Lib.hid hs
          have HG := Lib.hid (fun w (hr : Rd w B A l.length l) => refget_ok A l.length c B x 1 l w hc hn hr (.inl rfl) (by omega))
          rw [numd_1 l x h1, hm] at HG
          clear hs hm
          have h2' : (15 : Int) < m := by omega
          go_wp2_with fail
          refine (HG.out _ (HV.out.below HB1.out hB)).mono ?_
          rintro e w2 ⟨rfl, rfl⟩
          go_wp2_with fail
          rw [HS.out]
          exact bodyPost_ret (v := .tuple #[.agg #[.slice none 0 0, .int .u8 0, .int .u16 0], .int .i64 0, .int .i64 5]) (by simp [results, Try.results25, go_sem, g0, g1, g2]) rfl ⟨none, 0, rfl, OV.nil_, ((HB1.out.setCell (p := ⟨w.heap.size, 0, none⟩) (Nat.le_refl _) _).setCell (p := ⟨w.heap.size, 1, none⟩) (Nat.le_refl _) _).setCell (p := ⟨w.heap.size, 2, none⟩) (Nat.le_refl _) _⟩
        · have HG := Lib.hid (fun w (hr : Rd w B A l.length l) => refget_ok A l.length c B x 1 l w hc hn hr (.inl rfl) (by omega))
          rw [numd_1 l x h1, hm] at HG
          have h2 : m ≤ 15 := by rcases hts with h | h <;> exact h.1
          have HTS := Lib.hid hts
          have HT := Lib.hid (fun w i (hrd : Rd w B A l.length l) (hB : B ≤ w.heap.size) => reftget_any l.length l i hn rfl HRG.out w A c B hrd hc hB)
          clear hm hts
          have h2' : ¬ (15 : Int) < m := by omega
          go_wp2_with fail
          refine (HG.out _ (HV.out.below HB1.out hB)).mono ?_
          rintro e w2 ⟨rfl, rfl⟩
          go_wp2_with fail
          go_loopw [1, 15] (fun X i wr => ∃ (j d : Nat) (A' : Option Addr) (ts : List Ty) (Y : Int), j ≤ m ∧ i = .int .i64 j ∧ X = .int .i64 Y ∧ ts.length = j ∧ gTs l [] m ((x : Int) + 1) = gTs l ts (m - j) Y ∧
            Blk wr w.heap.size #[.slice none 0 0, .int .u8 0, .int .u16 0] 28 ∧ Blk wr (w.heap.size + 1) #[.slice A' j d, .int .u8 k, .int .u16 cl] 28 ∧ OV tyR 25 wr (Lt (w.heap.size + 2)) A' j d ts ∧ Below w.heap.size w wr) (fun _ i _ => m - (intOf i).toNat)
          case atStart => exact ⟨0, 0, none, [], _, Nat.zero_le _, rfl, rfl, rfl, rfl, HX0.out, HX1.out, OV.nil_, HB1.out⟩
          case round =>
            clear g0 g1 g2 gf0 gf1 gf2 q0 q1 q2 qf0 qf1 qf2 z1
            obtain ⟨j, d, A', ts, Y, hj, rfl, rfl, htl, hg, X0, X1, hov, hbr⟩ := hrel
            have HTL := Lib.hid htl
            have HO := Lib.hid hov
            have HB := Lib.hid hbr
            have z1 : w.heap.size + 1 < wr.heap.size := X1.lt
            have g0 : wr.cell? ⟨w.heap.size, 0, none⟩ = some (.slice none 0 0) := X0.cell 0
            have g1 : wr.cell? ⟨w.heap.size, 1, none⟩ = some (.int .u8 0) := X0.cell 1
            have g2 : wr.cell? ⟨w.heap.size, 2, none⟩ = some (.int .u16 0) := X0.cell 2
            have gf0 := X0.froz 0
            have gf1 := X0.froz 1
            have gf2 := X0.froz 2
            have q0 : wr.cell? ⟨w.heap.size + 1, 0, none⟩ = some (.slice A' j d) := X1.cell 0
            have q1 : wr.cell? ⟨w.heap.size + 1, 1, none⟩ = some (.int .u8 k) := X1.cell 1
            have q2 : wr.cell? ⟨w.heap.size + 1, 2, none⟩ = some (.int .u16 cl) := X1.cell 2
            have qf0 := X1.froz 0
            have qf1 := X1.froz 1
            have qf2 := X1.froz 2
            have HX0 := Lib.hid X0
            have HX1 := Lib.hid X1
            clear X0 X1
            by_cases hlt : j < m
            · obtain ⟨mm, hmm⟩ : ∃ mm, m - j = mm + 1 := ⟨m - j - 1, by omega⟩
              have hmm2 : m - (j + 1) = mm := by omega
              rw [hmm, gTs_succ] at hg
              have HM := Lib.hid hmm2
              have HGC := Lib.hid (HT.out wr Y (HV.out.below hbr hB) (by omega))
              by_cases he : (gTy l Y).e = 0
              · obtain ⟨hty, _, hx0, hx1, hx2, _⟩ := gTy_ok l Y HRG.out he
                rw [if_pos he] at hg
                have HGG := Lib.hid hg
                rw [he] at HGC
                clear htl hov hbr hg hmm2 hmm he
                generalize gTy l Y = g at HGG HGC hty hx0 hx1 hx2
                go_wp2_with fail
                refine HGC.out.mono ?_
                rintro e w3 ⟨rfl, hb3⟩
                have HRV := Lib.hid (rv_lit (w3.alloc (.cells #[.int .u8 g.k, .int .u16 g.c] 25)) g.k g.c hty)
                have X0 := HX0.out.below hb3
                have X1 := HX1.out.below hb3
                have z3 : w.heap.size + 1 < w3.heap.size := X1.lt
                have B3 := HB.out.trans (hb3.mono (by omega))
                have q0 : w3.cell? ⟨w.heap.size + 1, 0, none⟩ = some (.slice A' j d) := X1.cell 0
                have qf0 := X1.froz 0
                have HY0 := Lib.hid X0
                have HY1 := Lib.hid X1
                have HB3 := Lib.hid B3
                have HO3 := Lib.hid (HO.out.below hb3)
                have hzb := hb3.size
                clear X0 X1 B3 hb3
                go_wp2_with (at_builtin; refine wpList_appV tyFit rfl _ _ rfl (Lt (w.heap.size + 2)) A' j d ts rfl ((HO3.out.alloc _).alloc _) _ _ 1 1 [(g.k, g.c)] rfl (by simpa using HRV.out) (j + 1) rfl _ rfl (by omega) (fun q hq => by unfold Lt at hq; simp; omega) ?_; intro A2 c2 w4 ho4 hb4; have Y1 := ((HY1.out.alloc (.cells #[.int .u8 g.k, .int .u16 g.c] 25)).alloc (.cells #[.int .u8 g.k, .int .u16 g.c] 25)).kp hb4 (by unfold Lt; omega); have q40 : w4.cell? ⟨w.heap.size + 1, 0, none⟩ = some (.slice A' j d) := Y1.cell 0; have qf40 := Y1.froz 0; have HY14 := Lib.hid Y1; have HO4 := Lib.hid ho4; clear Y1 ho4)
                have Y0 := ((HY0.out.alloc (.cells #[.int .u8 g.k, .int .u16 g.c] 25)).alloc (.cells #[.int .u8 g.k, .int .u16 g.c] 25)).kp hb4 (by unfold Lt; omega)
                have B4 := ((HB3.out.alloc (by omega) (.cells #[.int .u8 g.k, .int .u16 g.c] 25)).alloc (by simp; omega) (.cells #[.int .u8 g.k, .int .u16 g.c] 25)).trans (hb4.below fun j hj => by unfold Lt; omega)
                go_roundw
                case rel => exact ⟨j + 1, c2, A2, ts ++ [(g.k, g.c)], g.x, by omega, by go_num, rfl, by rw [List.length_append, HTL.out]; rfl, by rw [HM.out]; exact HGG.out, Y0.other _ _ (by simp), HY14.out.set 0 (.slice A2 (j + 1) c2), HO4.out.set (p := ⟨w.heap.size + 1, 0, none⟩) (by unfold Lt; simp) _, B4.setCell (p := ⟨w.heap.size + 1, 0, none⟩) (by simp) _⟩
                case measure => simp [intOf]; omega
              · have hne : ((gTy l Y).e != 0) = true := by simpa using he
                have h0 : gTy l Y = ⟨0, 0, 0, (gTy l Y).e⟩ := by
                  unfold gTy
                  by_cases h2 : (gRet l Y).e = 0 ∧ (gRet l Y).k = 0
                  · rw [if_pos h2]
                  · rw [if_neg h2]
                    refine gRet_err l Y HRG.out (fun h3 => ?_)
                    unfold gTy at he
                    rw [if_neg h2] at he
                    exact he h3
                rw [if_neg he] at hg
                have hs : gSig l j0 = ⟨0, 0, [], 0, (gTy l Y).e⟩ := by
                  rcases HTS.out with ⟨_, E, hE, ht, hs⟩ | ⟨_, ts, y, ht, hs⟩
                  · rw [hs]
                    rw [ht] at hg
                    simp only [Gots.mk.injEq] at hg
                    rw [hg.2.2]
                  · rw [ht] at hg
                    simp only [Gots.mk.injEq] at hg
                    exact absurd hg.2.2.symm he
                have HS := Lib.hid hs
                rw [h0] at HGC
                clear htl hov hbr hg hmm2 hmm he h0 hs
                generalize (gTy l Y).e = ee at HS HGC hne
                go_wp2_with fail
                refine HGC.out.mono ?_
                rintro e w3 ⟨rfl, hb3⟩
                have X0 := HX0.out.below hb3
                have z3 : w.heap.size + 1 < w3.heap.size := by have := hb3.size; omega
                have B3 := HB.out.trans (hb3.mono (by omega))
                have z4 : w.heap.size < w3.heap.size := by omega
                have G0 : w3.cell? ⟨w.heap.size, 0, none⟩ = some (.slice none 0 0) := X0.cell 0
                have G1 : w3.cell? ⟨w.heap.size, 1, none⟩ = some (.int .u8 0) := X0.cell 1
                have G2 : w3.cell? ⟨w.heap.size, 2, none⟩ = some (.int .u16 0) := X0.cell 2
                have Gf0 := X0.froz 0
                have Gf1 := X0.froz 1
                have Gf2 := X0.froz 2
                clear X0 hb3
                go_wp2_with fail
                rw [HS.out]
                exact bodyPost_ret (v := .tuple #[.agg #[.slice none 0 0, .int .u8 0, .int .u16 0], .int .i64 0, .int .i64 ee]) (by simp [results, Try.results25, go_sem, G0, G1, G2, z4]) rfl ⟨none, 0, rfl, OV.nil_, (((B3.setCell (p := ⟨w.heap.size, 0, none⟩) (Nat.le_refl _) _).setCell (p := ⟨w.heap.size, 1, none⟩) (Nat.le_refl _) _).setCell (p := ⟨w.heap.size, 2, none⟩) (Nat.le_refl _) _).alloc (by simp [World.setCell]; omega) _⟩
            · obtain rfl : j = m := by omega
              rw [Nat.sub_self, gTs_zero] at hg
              have hs : gSig l j0 = ⟨k, cl, ts, Y, 0⟩ := by
                rcases HTS.out with ⟨_, E, hE, ht, hs⟩ | ⟨_, ts', y, ht, hs⟩
                · rw [ht] at hg
                  simp only [Gots.mk.injEq] at hg
                  exact absurd hg.2.2 hE
                · rw [hs]
                  rw [ht] at hg
                  simp only [Gots.mk.injEq] at hg
                  rw [hg.1, hg.2.1]
              have HS := Lib.hid hs
              clear htl hov hbr hg hs
              go_wp2_with fail
              rw [HS.out]
              have ho4 := ((HO.out.set (p := ⟨w.heap.size, 0, none⟩) (by unfold Lt; simp) (.slice A' j d)).set (p := ⟨w.heap.size, 1, none⟩) (by unfold Lt; simp) (.int .u8 k)).set (p := ⟨w.heap.size, 2, none⟩) (by unfold Lt; simp) (.int .u16 cl)
              exact bodyPost_ret (v := .tuple #[.agg #[.slice A' j d, .int .u8 k, .int .u16 cl], .int .i64 Y, .int .i64 0]) (by simp [results, Try.results25, go_sem, g0, g1, g2]) rfl ⟨A', d, by simp only [HTL.out], by simp only [HTL.out]; exact ho4.less (fun q hq => by unfold Lt at *; omega), ((HB.out.setCell (p := ⟨w.heap.size, 0, none⟩) (Nat.le_refl _) _).setCell (p := ⟨w.heap.size, 1, none⟩) (Nat.le_refl _) _).setCell (p := ⟨w.heap.size, 2, none⟩) (Nat.le_refl _) _⟩
end Go.Proofs.Ytihdfogcnghfaaa
