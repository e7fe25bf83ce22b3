import Derived.Test.YtojekhalpedfhaaEe
set_option linter.unusedVariables false
namespace Go.Proofs.Ytojekhalpedfhaa
open Go.RowKit
theorem add_eq (a b : Nat) : (((a : Int) + 1 + (b : Int)) == ((a : Int) + (1 + (b : Int)))) = true := by rw [beq_iff_eq]; omega
set_option maxHeartbeats 1000000 in
set_option maxRecDepth 100000 in
theorem awalk_back (A2 A3 A4 : Option Addr) (n2 n3 n4 c2 c3 c4 : Nat) (l a b : List Int) (w : World)
    (hz : n2 + n3 + n4 ≤ 4194304) (d2 : n2 ≤ c2) (d3 : n3 ≤ c3) (d4 : n4 ≤ c4) (hl : Rd w w.heap.size A2 n2 l) (ha : Rd w w.heap.size A3 n3 a) (hb : Rd w w.heap.size A4 n4 b) :
    Calls Try.prog 5 #[.slice A2 n2 c2, .slice A3 n3 c3, .slice A4 n4 c4] w fun e w' => e = .returned (.bool true) ∧ Below w.heap.size w w' := by
  cases hm : mayB n2
  · have P1 := Lib.hid (aput_no n2 l (by omega) hm)
    have M := Lib.hid (fun w => may_any A2 n2 c2 w (by omega))
    rw [hm] at M
    have HL := Lib.hid hl
    clear hl ha hb hm
    go_enter Try.func5, Try.ntmps5
    go_wp2_with fail
    refine (P1.out _ _ _ _ HL.out d2 (Nat.le_refl _)).mono ?_
    rintro e w1 ⟨A1, c1, rfl, ho1, hb1⟩
    go_wp2_with fail
    refine (M.out _).mono ?_
    rintro e w' ⟨rfl, rfl⟩
    go_wp2_with fail
    refine (works_any _).mono ?_
    rintro e w10 ⟨rfl, hb10⟩
    go_wp2_with fail
    go_returns
    exact ⟨rfl, hb1.trans (hb10.mono hb1.size)⟩
  · have h16 := (mayB_yes hm).2
    have hrow : GetRowSaid 33 (n3 + (1 + n2) + n4) (a ++ (dig n2 1 ++ l) ++ b) (n3 : Int) 1 n2 l ((n3 : Int) + 1 + (n2 : Int)) 0 := by
      intro w A c B hr hc hB
      have hd := dig_len 1 (n2 : Int)
      have h := getrow_ok A (n3 + (1 + n2) + n4) c B n3 1 n2 _ w hc (by omega) (by omega) hr hB (by omega) (by rw [← ha.len, mid1 a (dig n2 1) l b 1 hd, num_dig 1 n2 (by omega) (by omega)]) (by omega) (by omega)
      rw [mid2 a (dig n2 1) l b (n3 + 1) n2 (by rw [ha.len, hd]) hl.len] at h
      exact h
    have P1 := Lib.hid (aput_yes n2 (1 + n2) l (dig n2 1 ++ l) 0 (by omega) hm (fun w A c B hr hc hB => putrow_ok A n2 c B 1 l w hr hB (by omega)))
    have P2 := Lib.hid (aget_ok _ n2 _ _ _ _ (by omega) hm hrow)
    have q := add_eq n3 n2
    have HL := Lib.hid hl
    have HA := Lib.hid ha
    have HB := Lib.hid hb
    clear hl ha hb hm hrow
    go_enter Try.func5, Try.ntmps5
    go_wp2_with fail
    refine (P1.out _ _ _ _ HL.out d2 (Nat.le_refl _)).mono ?_
    rintro e w1 ⟨A1, c1, rfl, ho1, hb1⟩
    go_wp2_with fail
    refine (copy_any A3 n3 c3 _ a w1 (by omega) (HA.out.below hb1 (Nat.le_refl _)) hb1.size).mono ?_
    rintro e v1 ⟨A5, c5, rfl, ho5, hb5⟩
    go_wp2_with (first
      | (at_builtin; refine wpList_app rfl _ _ rfl w1.heap.size A5 n3 c5 a rfl ho5 w1.heap.size A1 (1 + n2) c1 (dig n2 1 ++ l) rfl (ho1.rd.below hb5 (Nat.le_refl _)) (n3 + (1 + n2)) rfl (a ++ (dig n2 1 ++ l)) rfl (by omega) hb5.size ?_; intro A6 c6 w6 ho6 hb6)
      | (at_builtin; refine wpList_app rfl _ _ rfl w1.heap.size A6 (n3 + (1 + n2)) c6 (a ++ (dig n2 1 ++ l)) rfl ho6 w.heap.size A4 n4 c4 b rfl (HB.out.below (hb1.trans ((hb5.trans hb6).mono hb1.size)) (Nat.le_refl _)) (n3 + (1 + n2) + n4) rfl (a ++ (dig n2 1 ++ l) ++ b) rfl (by omega) (hb5.trans hb6).size ?_; intro A7 c7 w7 ho7 hb7))
    have B7 := hb1.trans (((hb5.trans hb6).trans hb7).mono hb1.size)
    refine (P2.out _ _ _ _ ho7.rd ho7.le (Nat.le_refl _)).mono ?_
    rintro e w8 ⟨A8, c8, rfl, ho8, hb8⟩
    have B8 := B7.trans (hb8.mono B7.size)
    go_wp2_with fail
    refine (same_yes A8 A2 n2 c8 c2 _ _ l w8 (by omega) ho8.rd (HL.out.below B8 (Nat.le_refl _))).mono ?_
    rintro e w9 ⟨rfl, q9, rfl⟩
    go_wp2_with fail
    refine (works_any _).mono ?_
    rintro e w10 ⟨rfl, hb10⟩
    go_wp2_with fail
    go_returns
    exact ⟨rfl, (below_drewN B8 _).trans (hb10.mono B8.size)⟩
theorem bcell {W w1 : World} (hb : Below W.heap.size W w1) : (∀ b o, b < W.heap.size → w1.cell? ⟨b, o, none⟩ = W.cell? ⟨b, o, none⟩) ∧ (∀ b o, b < W.heap.size → w1.frozen? ⟨b, o, none⟩ = W.frozen? ⟨b, o, none⟩) :=
  ⟨fun b o h => hb.cell (p := ⟨b, o, none⟩) h, fun b o h => hb.frozen (p := ⟨b, o, none⟩) h⟩
theorem serv_self (a b : Int) : servB a b a b = true := by simp [servB]
theorem serv_less {a b c d x : Int} (h : servB a b c d = true) (hx : x ≤ d) : servB a b c x = true := by simp [servB] at h ⊢; omega
theorem awalk_serves (a b c d x : Int) (w : World) (x0 : 0 ≤ x) (x1 : x < 256) (d0 : 0 ≤ d) (d1 : d < 256) :
    Calls Try.prog 7 #[.agg #[.int .u8 a, .int .u8 b], .agg #[.int .u8 c, .int .u8 d], .int .u8 x] w fun e w' => e = .returned (.bool true) ∧ Below w.heap.size w w' := by
  have hm : ∃ m, (m = x ∧ x ≤ d ∨ m = d ∧ ¬ x ≤ d) ∧ m ≤ d := by
    by_cases h : x ≤ d
    · exact ⟨x, .inl ⟨rfl, h⟩, h⟩
    · exact ⟨d, .inr ⟨rfl, h⟩, by omega⟩
  have B3 : ∀ o, Below w.heap.size w (((w.alloc (.cells #[.int .u8 a, .int .u8 b] 33)).alloc (.cells #[.int .u8 c, .int .u8 d] 33)).alloc o) := fun o => (((Below.refl _ _).alloc (Nat.le_refl _) _).alloc (by simp) _).alloc (by simp; omega) _
  have HB3 := Lib.hid B3
  clear B3
  obtain ⟨m, hm, hmd⟩ := hm
  cases s2 : servB a b c d
  · rcases hm with ⟨rfl, hx⟩ | ⟨rfl, hx⟩
    all_goals
      have HS1 := Lib.hid (serv_self a b)
      have HS2 := Lib.hid s2
      clear s2
      go_enter Try.func7, Try.ntmps7
      go_wp2_with fail
      refine (serves_any _ _ _ _ _).mono ?_
      rintro e w1 ⟨rfl, hb1⟩
      have E1 := (HB3.out _).trans (hb1.mono (HB3.out _).size)
      obtain ⟨hc1, hf1⟩ := bcell hb1
      have hz1 : w.heap.size + 1 + 1 < w1.heap.size := by have := hb1.size; simp at this; omega
      rw [HS1.out]
      go_wp2_with fail
      refine (serves_any _ _ _ _ _).mono ?_
      rintro e w2 ⟨rfl, hb2⟩
      have E2 := E1.trans (hb2.mono E1.size)
      rw [HS2.out]
      go_wp2_with fail
      refine (works_any _).mono ?_
      rintro e w10 ⟨rfl, hb10⟩
      go_wp2_with fail
      go_returns
      exact ⟨rfl, E2.trans (hb10.mono E2.size)⟩
  · have s3 := serv_less s2 hmd
    rcases hm with ⟨rfl, hx⟩ | ⟨rfl, hx⟩
    all_goals
      have HS1 := Lib.hid (serv_self a b)
      have HS2 := Lib.hid s2
      have HS3 := Lib.hid s3
      clear s2 s3
      go_enter Try.func7, Try.ntmps7
      go_wp2_with fail
      refine (serves_any _ _ _ _ _).mono ?_
      rintro e w1 ⟨rfl, hb1⟩
      have E1 := (HB3.out _).trans (hb1.mono (HB3.out _).size)
      obtain ⟨hc1, hf1⟩ := bcell hb1
      have hz1 : w.heap.size + 1 + 1 < w1.heap.size := by have := hb1.size; simp at this; omega
      rw [HS1.out]
      go_wp2_with fail
      refine (serves_any _ _ _ _ _).mono ?_
      rintro e w2 ⟨rfl, hb2⟩
      have E2 := E1.trans (hb2.mono E1.size)
      obtain ⟨hc2, hf2⟩ := bcell hb2
      have hz1' : w.heap.size + 1 < w1.heap.size := by omega
      have hz1'' : w.heap.size < w1.heap.size := by omega
      have g0 : w2.cell? ⟨w.heap.size, 0, none⟩ = some (.int .u8 a) := by rw [hc2 _ _ (by omega), hc1 _ _ (by simp; omega)]; go_simp
      have g1 : w2.cell? ⟨w.heap.size, 1, none⟩ = some (.int .u8 b) := by rw [hc2 _ _ (by omega), hc1 _ _ (by simp; omega)]; go_simp
      have g2 : w2.cell? ⟨w.heap.size + 1 + 1, 0, none⟩ = some (.int .u8 c) := by rw [hc2 _ _ (by omega), hc1 _ _ (by simp)]; go_simp
      have g3 : w2.cell? ⟨w.heap.size + 1 + 1, 1, none⟩ = some (.int .u8 m) := by rw [hc2 _ _ (by omega), hc1 _ _ (by simp)]; go_simp
      clear hc1 hc2 hf1 hf2
      rw [HS2.out]
      go_wp2_with fail
      refine (serves_any _ _ _ _ _).mono ?_
      rintro e w3 ⟨rfl, hb3⟩
      have E3 := E2.trans (hb3.mono E2.size)
      rw [HS3.out]
      go_wp2_with fail
      refine (works_any _).mono ?_
      rintro e w10 ⟨rfl, hb10⟩
      go_wp2_with fail
      go_returns
      exact ⟨rfl, E3.trans (hb10.mono E3.size)⟩
end Go.Proofs.Ytojekhalpedfhaa
