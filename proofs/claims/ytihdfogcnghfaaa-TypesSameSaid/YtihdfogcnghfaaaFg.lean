import Derived.Test.YtihdfogcnghfaaaFf
set_option linter.unusedVariables false
namespace Go.Proofs.Ytihdfogcnghfaaa
open Go.RowKit
/-! Get of both. -/
theorem gRet_err (l : List Int) (i : Int) (hr : rng l) (h : ¬ (gRet l i).e = 0) : gRet l i = ⟨0, 0, 0, (gRet l i).e⟩ := by
  rcases gRet_ways l i hr with ⟨_, he⟩ | ⟨j, rfl, hj, ⟨_, he⟩ | ⟨k, h1, hk, k0, k1, ⟨_, he⟩ | ⟨_, _, he⟩ | ⟨_, _, _, he⟩ | ⟨_, _, _, _, he⟩⟩⟩
  · rw [he]
  · rw [he]
  · rw [he]
  · rw [he] at h; exact absurd rfl h
  · rw [he]
  · rw [he] at h; exact absurd rfl h
theorem mayT_k (k c : Int) (h0 : 0 ≤ k) (h8 : k ≤ 8) (hc : clsd k = true ∨ c = 0) : mayT k c = !decide (k = 0) := by
  unfold mayT
  have e : (clsd k || decide (c = 0)) = true := by
    rcases hc with h | h
    · rw [h]; rfl
    · rw [decide_eq_true h, Bool.or_true]
  rw [e, Bool.and_true]
  by_cases h : k = 0
  · rw [decide_eq_true h, decide_eq_false (by omega)]; rfl
  · rw [decide_eq_false h, decide_eq_true (by omega)]; rfl
theorem gRet_ok (l : List Int) (i : Int) (hr : rng l) (h : (gRet l i).e = 0) :
    tyB (gRet l i).k (gRet l i).c ∧ mayT (gRet l i).k (gRet l i).c = !decide ((gRet l i).k = 0) ∧ 0 ≤ i ∧ i < (gRet l i).x ∧ (gRet l i).x ≤ l.length ∧ ((gRet l i).k = 0 → (gRet l i).c = 0) := by
  rcases gRet_ways l i hr with ⟨_, he⟩ | ⟨j, rfl, hj, ⟨_, he⟩ | ⟨k, h1, hk, k0, k1, ⟨_, he⟩ | ⟨h8, hc, he⟩ | ⟨_, _, _, he⟩ | ⟨h8, hc, h3, h4, he⟩⟩⟩
  · rw [he] at h; cases h
  · rw [he] at h; cases h
  · rw [he] at h; cases h
  · rw [he]
    exact ⟨⟨⟨k0, k1⟩, Int.le_refl 0, show (0 : Int) < 65536 by omega⟩, mayT_k k 0 k0 h8 (.inr rfl), by omega, show (j : Int) < j + 1 by omega, show (j : Int) + 1 ≤ _ by omega, fun _ => rfl⟩
  · rw [he] at h; cases h
  · rw [he]
    exact ⟨⟨⟨k0, k1⟩, h4⟩, mayT_k k _ k0 h8 (.inl hc), by omega, show (j : Int) < j + 3 by omega, show (j : Int) + 3 ≤ _ by omega, fun hk0 => by simp only at hk0; subst hk0; simp [clsd] at hc⟩
set_option maxHeartbeats 1000000 in
theorem tget_any (n : Nat) (l : List Int) (i : Int) (hn : n ≤ 281474976710656) (hl : l.length = n) (hr : rng l) : TGetSaid 22 n l i (gTy l i) := by
  intro w A c B hrd hc hB
  have HG := Lib.hid (fun w => getret_any n l i hn hl hr w A c B)
  have HV := Lib.hid hrd
  clear hrd
  unfold gTy
  by_cases h : (gRet l i).e = 0
  · obtain ⟨⟨⟨k0, k1⟩, c0, c1⟩, hm, _, _, _, _⟩ := gRet_ok l i hr h
    have hM := fun w => may_any (gRet l i).k (gRet l i).c w k0 c0
    rw [hm] at hM
    have HM := Lib.hid hM
    rw [h] at HG
    by_cases hk : (gRet l i).k = 0
    · rw [if_pos ⟨h, hk⟩]
      rw [decide_eq_true hk] at HM
      clear hM hm h hk
      generalize gRet l i = g at HG HM k0 k1 c0 c1 ⊢
      go_enter Try.func22, Try.ntmps22
      go_wp2_with fail
      refine (HG.out _ (HV.out.alloc hB _) hc (by simp; omega)).mono ?_
      rintro e w1 ⟨rfl, hb1⟩
      obtain ⟨X1, z1, B1⟩ := Blk.box hb1
      have g0 : w1.cell? ⟨w.heap.size, 0, none⟩ = some (.int .u8 0) := X1.cell 0
      have g1 : w1.cell? ⟨w.heap.size, 1, none⟩ = some (.int .u16 0) := X1.cell 1
      have f0 := X1.froz 0
      have f1 := X1.froz 1
      have X2 := (X1.set 0 (.int .u8 g.k)).set 1 (.int .u16 g.c)
      have B2 := (B1.setCell (p := ⟨w.heap.size, 0, none⟩) (Nat.le_refl _) (.int .u8 g.k)).setCell (p := ⟨w.heap.size, 1, none⟩) (Nat.le_refl _) (.int .u16 g.c)
      have HX2 := Lib.hid X2
      have HB2 := Lib.hid B2
      clear X1 X2 hb1 B2
      go_wp2_with fail
      refine (HM.out _).mono ?_
      rintro e w2 ⟨rfl, hb2⟩
      have X3 := HX2.out.below hb2
      have B3 := HB2.out.trans (hb2.mono (Nat.le_of_lt HX2.out.lt))
      have G0 : w2.cell? ⟨w.heap.size, 0, none⟩ = some (.int .u8 g.k) := X3.cell 0
      have G1 : w2.cell? ⟨w.heap.size, 1, none⟩ = some (.int .u16 g.c) := X3.cell 1
      have F0 := X3.froz 0
      have F1 := X3.froz 1
      clear X3
      go_wp2_with fail
      exact bodyPost_ret (v := .tuple #[.agg #[.int .u8 0, .int .u16 0], .int .i64 0, .int .i64 5]) (by simp [results, Try.results22, go_sem, G0, G1]) rfl ⟨rfl, (B3.setCell (Nat.le_refl _) _).setCell (Nat.le_refl _) _⟩
    · rw [if_neg (fun h2 => hk h2.2)]
      rw [decide_eq_false hk] at HM
      rw [show gRet l i = ⟨(gRet l i).k, (gRet l i).c, (gRet l i).x, 0⟩ from by rw [← h]]
      clear hM hm h hk
      generalize gRet l i = g at HG HM k0 k1 c0 c1 ⊢
      go_enter Try.func22, Try.ntmps22
      go_wp2_with fail
      refine (HG.out _ (HV.out.alloc hB _) hc (by simp; omega)).mono ?_
      rintro e w1 ⟨rfl, hb1⟩
      obtain ⟨X1, z1, B1⟩ := Blk.box hb1
      have g0 : w1.cell? ⟨w.heap.size, 0, none⟩ = some (.int .u8 0) := X1.cell 0
      have g1 : w1.cell? ⟨w.heap.size, 1, none⟩ = some (.int .u16 0) := X1.cell 1
      have f0 := X1.froz 0
      have f1 := X1.froz 1
      have X2 := (X1.set 0 (.int .u8 g.k)).set 1 (.int .u16 g.c)
      have B2 := (B1.setCell (p := ⟨w.heap.size, 0, none⟩) (Nat.le_refl _) (.int .u8 g.k)).setCell (p := ⟨w.heap.size, 1, none⟩) (Nat.le_refl _) (.int .u16 g.c)
      have HX2 := Lib.hid X2
      have HB2 := Lib.hid B2
      clear X1 X2 hb1 B2
      go_wp2_with fail
      refine (HM.out _).mono ?_
      rintro e w2 ⟨rfl, hb2⟩
      have X3 := HX2.out.below hb2
      have B3 := HB2.out.trans (hb2.mono (Nat.le_of_lt HX2.out.lt))
      have G0 : w2.cell? ⟨w.heap.size, 0, none⟩ = some (.int .u8 g.k) := X3.cell 0
      have G1 : w2.cell? ⟨w.heap.size, 1, none⟩ = some (.int .u16 g.c) := X3.cell 1
      have F0 := X3.froz 0
      have F1 := X3.froz 1
      clear X3
      go_wp2_with fail
      exact bodyPost_ret (v := .tuple #[.agg #[.int .u8 g.k, .int .u16 g.c], .int .i64 g.x, .int .i64 0]) (by simp [results, Try.results22, go_sem, G0, G1]) rfl ⟨rfl, (B3.setCell (Nat.le_refl _) _).setCell (Nat.le_refl _) _⟩
  · rw [if_neg (fun h2 => h h2.1)]
    have he := gRet_err l i hr h
    have hne : ((gRet l i).e != 0) = true := by simpa using h
    have h0 : (gRet l i).k = 0 ∧ (gRet l i).c = 0 ∧ (gRet l i).x = 0 := by rw [he]; exact ⟨rfl, rfl, rfl⟩
    rw [h0.1, h0.2.1, h0.2.2] at HG
    rw [he]
    clear h he h0
    generalize (gRet l i).e = ee at HG hne ⊢
    go_enter Try.func22, Try.ntmps22
    go_wp2_with fail
    refine (HG.out _ (HV.out.alloc hB _) hc (by simp; omega)).mono ?_
    rintro e w1 ⟨rfl, hb1⟩
    obtain ⟨X1, z1, B1⟩ := Blk.box hb1
    have g0 : w1.cell? ⟨w.heap.size, 0, none⟩ = some (.int .u8 0) := X1.cell 0
    have g1 : w1.cell? ⟨w.heap.size, 1, none⟩ = some (.int .u16 0) := X1.cell 1
    have f0 := X1.froz 0
    have f1 := X1.froz 1
    have X4 := (((X1.set 0 (.int .u8 0)).set 1 (.int .u16 0)).set 0 (.int .u8 0)).set 1 (.int .u16 0)
    have B4 := (((B1.setCell (p := ⟨w.heap.size, 0, none⟩) (Nat.le_refl _) (.int .u8 0)).setCell (p := ⟨w.heap.size, 1, none⟩) (Nat.le_refl _) (.int .u16 0)).setCell (p := ⟨w.heap.size, 0, none⟩) (Nat.le_refl _) (.int .u8 0)).setCell (p := ⟨w.heap.size, 1, none⟩) (Nat.le_refl _) (.int .u16 0)
    have HX := Lib.hid X4
    have HB := Lib.hid B4
    clear X1 hb1 X4 B4
    go_wp2_with fail
    have X4 := HX.out
    have B4 := HB.out
    clear HX HB
    generalize (((w1.setCell ⟨w.heap.size, 0, none⟩ (.int .u8 0)).setCell ⟨w.heap.size, 1, none⟩ (.int .u16 0)).setCell ⟨w.heap.size, 0, none⟩ (.int .u8 0)).setCell ⟨w.heap.size, 1, none⟩ (.int .u16 0) = W4 at X4 B4 ⊢
    have c0 : W4.cell? ⟨w.heap.size, 0, none⟩ = some (.int .u8 0) := X4.cell 0
    have c1 : W4.cell? ⟨w.heap.size, 1, none⟩ = some (.int .u16 0) := X4.cell 1
    exact bodyPost_ret (v := .tuple #[.agg #[.int .u8 0, .int .u16 0], .int .i64 0, .int .i64 ee]) (by simp [results, Try.results22, go_sem, c0, c1]) rfl ⟨rfl, B4⟩
set_option maxHeartbeats 1000000 in
theorem reftget_any (n : Nat) (l : List Int) (i : Int) (hn : n ≤ 281474976710656) (hl : l.length = n) (hr : rng l) : TGetSaid 23 n l i (gTy l i) := by
  intro w A c B hrd hc hB
  subst hl
  have HV := Lib.hid hrd
  clear hrd
  unfold gTy
  rcases gRet_ways l i hr with ⟨h, he⟩ | ⟨j, rfl, hj, ⟨h, he⟩ | ⟨k, h1, hk, k0, k1, ⟨h, he⟩ | ⟨h, h2, he⟩ | ⟨h, h2, h3, he⟩ | ⟨h, h2, h3, h4, he⟩⟩⟩
  · rw [he, if_neg (fun h2 => by cases h2.1)]
    have HG := Lib.hid (fun w => refget_arg A l.length c i 1 w hc hn (.inr h))
    clear he h hr
    go_enter Try.func23, Try.ntmps23
    go_wp2_with fail
    refine (HG.out _).mono ?_
    rintro e w1 ⟨rfl, rfl⟩
    go_wp2_with fail
    exact bodyPost_ret (v := .tuple #[.agg #[.int .u8 0, .int .u16 0], .int .i64 0, .int .i64 2]) (by simp [results, Try.results23, go_sem]) rfl ⟨rfl, (Below.refl _ _).alloc (Nat.le_refl _) _⟩
  · rw [he, if_neg (fun h2 => by cases h2.1)]
    have HG := Lib.hid (fun w => refget_short A l.length c j 1 w hc hn (.inl rfl) (by omega) (by omega) (by omega))
    clear he h hr
    go_enter Try.func23, Try.ntmps23
    go_wp2_with fail
    refine (HG.out _).mono ?_
    rintro e w1 ⟨rfl, rfl⟩
    go_wp2_with fail
    exact bodyPost_ret (v := .tuple #[.agg #[.int .u8 0, .int .u16 0], .int .i64 0, .int .i64 4]) (by simp [results, Try.results23, go_sem]) rfl ⟨rfl, (Below.refl _ _).alloc (Nat.le_refl _) _⟩
  · rw [he, if_neg (fun h2 => by cases h2.1)]
    have HG := Lib.hid (fun w (hr : Rd w B A l.length l) => refget_ok A l.length c B j 1 l w hc hn hr (.inl rfl) (by omega))
    rw [numd_1 l j h1, hk] at HG
    clear he hr hk
    go_enter Try.func23, Try.ntmps23
    go_wp2_with fail
    refine (HG.out _ (HV.out.alloc hB _)).mono ?_
    rintro e w1 ⟨rfl, rfl⟩
    go_wp2_with fail
    exact bodyPost_ret (v := .tuple #[.agg #[.int .u8 0, .int .u16 0], .int .i64 0, .int .i64 5]) (by simp [results, Try.results23, go_sem]) rfl ⟨rfl, (Below.refl _ _).alloc (Nat.le_refl _) _⟩
  · rw [he]
    have HG := Lib.hid (fun w (hr : Rd w B A l.length l) => refget_ok A l.length c B j 1 l w hc hn hr (.inl rfl) (by omega))
    rw [numd_1 l j h1, hk] at HG
    have k8 : k % 256 = k := Int.emod_eq_of_lt k0 k1
    have HC := Lib.hid (fun w => refclsd_any k w k0)
    rw [h2] at HC
    clear he hr hk h2
    by_cases hk0 : k = 0
    · subst hk0
      rw [if_pos ⟨rfl, rfl⟩]
      go_enter Try.func23, Try.ntmps23
      go_wp2_with fail
      refine (HG.out _ (HV.out.alloc hB _)).mono ?_
      rintro e w1 ⟨rfl, rfl⟩
      go_wp2_with fail
      exact bodyPost_ret (v := .tuple #[.agg #[.int .u8 0, .int .u16 0], .int .i64 0, .int .i64 5]) (by simp [results, Try.results23, go_sem]) rfl ⟨rfl, (Below.refl _ _).alloc (Nat.le_refl _) _⟩
    · rw [if_neg (fun h2 => hk0 h2.2)]
      have k2 : ¬ k < 1 := by omega
      have k3 : ¬ 8 < k := by omega
      go_enter Try.func23, Try.ntmps23
      go_wp2_with fail
      refine (HG.out _ (HV.out.alloc hB _)).mono ?_
      rintro e w1 ⟨rfl, rfl⟩
      go_wp2_with fail
      refine (HC.out _).mono ?_
      rintro e w1 ⟨rfl, rfl⟩
      go_wp2_with fail
      exact bodyPost_ret (v := .tuple #[.agg #[.int .u8 k, .int .u16 0], .int .i64 ((j : Int) + 1), .int .i64 0]) (by simp [results, Try.results23, go_sem]) rfl ⟨rfl, ((Below.refl _ _).alloc (Nat.le_refl _) _).alloc (by simp) _⟩
  · rw [he, if_neg (fun h2 => by cases h2.1)]
    have HG := Lib.hid (fun w (hr : Rd w B A l.length l) => refget_ok A l.length c B j 1 l w hc hn hr (.inl rfl) (by omega))
    rw [numd_1 l j h1, hk] at HG
    have k8 : k % 256 = k := Int.emod_eq_of_lt k0 k1
    have HC := Lib.hid (fun w => refclsd_any k w k0)
    rw [h2] at HC
    have HG2 := Lib.hid (fun w => refget_short A l.length c (j + 1) 2 w hc hn (.inr (.inl rfl)) (by omega) (by omega) (by omega))
    have hk0 : ¬ k = 0 := by intro h; subst h; cases h2
    have k2 : ¬ k < 1 := by omega
    have k3 : ¬ 8 < k := by omega
    clear he hr hk h2
    go_enter Try.func23, Try.ntmps23
    go_wp2_with fail
    refine (HG.out _ (HV.out.alloc hB _)).mono ?_
    rintro e w1 ⟨rfl, rfl⟩
    go_wp2_with fail
    refine (HC.out _).mono ?_
    rintro e w1 ⟨rfl, rfl⟩
    go_wp2_with fail
    refine (HG2.out _).mono ?_
    rintro e w1 ⟨rfl, rfl⟩
    go_wp2_with fail
    exact bodyPost_ret (v := .tuple #[.agg #[.int .u8 0, .int .u16 0], .int .i64 0, .int .i64 4]) (by simp [results, Try.results23, go_sem]) rfl ⟨rfl, ((Below.refl _ _).alloc (Nat.le_refl _) _).alloc (by simp) _⟩
  · have hk0 : ¬ k = 0 := by intro h; subst h; cases h2
    rw [he, if_neg (fun h2 => hk0 h2.2)]
    have HG := Lib.hid (fun w (hr : Rd w B A l.length l) => refget_ok A l.length c B j 1 l w hc hn hr (.inl rfl) (by omega))
    rw [numd_1 l j h1, hk] at HG
    have k8 : k % 256 = k := Int.emod_eq_of_lt k0 k1
    have HC := Lib.hid (fun w => refclsd_any k w k0)
    rw [h2] at HC
    have HG2 := Lib.hid (fun w (hr : Rd w B A l.length l) => refget_ok A l.length c B (j + 1) 2 l w hc hn hr (.inr (.inl rfl)) (by omega))
    rw [numd_2 l (j + 1) (by omega)] at HG2
    generalize 256 * l.getD (j + 1) 0 + l.getD (j + 1 + 1) 0 = cc at h4 HG2 ⊢
    obtain ⟨h5, h6⟩ := h4
    have c8 : cc % 65536 = cc := Int.emod_eq_of_lt h5 h6
    have k2 : ¬ k < 1 := by omega
    have k3 : ¬ 8 < k := by omega
    clear he hr hk h2
    go_enter Try.func23, Try.ntmps23
    go_wp2_with fail
    refine (HG.out _ (HV.out.alloc hB _)).mono ?_
    rintro e w1 ⟨rfl, rfl⟩
    go_wp2_with fail
    refine (HC.out _).mono ?_
    rintro e w1 ⟨rfl, rfl⟩
    go_wp2_with fail
    refine (HG2.out _ ((HV.out.alloc hB _).alloc (by simp; omega) _)).mono ?_
    rintro e w1 ⟨rfl, rfl⟩
    go_wp2_with fail
    rw [show (j : Int) + 3 = j + 1 + 2 by omega]
    exact bodyPost_ret (v := .tuple #[.agg #[.int .u8 k, .int .u16 cc], .int .i64 ((j : Int) + 1 + 2), .int .i64 0]) (by simp [results, Try.results23, go_sem]) rfl ⟨rfl, ((Below.refl _ _).alloc (Nat.le_refl _) _).alloc (by simp) _⟩
end Go.Proofs.Ytihdfogcnghfaaa
