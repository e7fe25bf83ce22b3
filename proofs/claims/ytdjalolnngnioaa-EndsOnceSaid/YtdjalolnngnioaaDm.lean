import Derived.Test.YtdjalolnngnioaaDl
set_option linter.unusedVariables false
namespace Go.Proofs.Ytdjalolnngnioaa
open Go.RowKit
/-! What stands in the midst. -/
theorem mid (a p b : List Int) (k : Nat) (hk : p.length = k) : ((a ++ p ++ b).drop a.length).take k = p := by
  rw [List.append_assoc, List.drop_left, ← hk, List.take_left]
theorem mid2 (a d p b : List Int) (j k : Nat) (hj : j = a.length + d.length) (hk : p.length = k) : ((a ++ (d ++ p) ++ b).drop j).take k = p := by
  subst hj
  rw [show a ++ (d ++ p) ++ b = (a ++ d) ++ (p ++ b) by simp, ← List.length_append, List.drop_left, ← hk, List.take_left]
theorem mid1 (a d p b : List Int) (k : Nat) (hk : d.length = k) : ((a ++ (d ++ p) ++ b).drop a.length).take k = d := by
  rw [show a ++ (d ++ p) ++ b = a ++ (d ++ (p ++ b)) by simp, List.drop_left, ← hk, List.take_left]
set_option maxHeartbeats 1000000 in
set_option maxRecDepth 100000 in
theorem walk_back (N s : Int) (A2 A3 A4 : Option Addr) (n2 n3 n4 c2 c3 c4 : Nat) (l a b : List Int) (w : World) (m0 : 0 ≤ N) (m1 : N ≤ 4294967295)
    (hz : n2 + n3 + n4 ≤ 4194304) (d2 : n2 ≤ c2) (d3 : n3 ≤ c3) (d4 : n4 ≤ c4) (hl : Rd w w.heap.size A2 n2 l) (ha : Rd w w.heap.size A3 n3 a) (hb : Rd w w.heap.size A4 n4 b) :
    Calls Try.prog 6 #[.int .u32 N, .int .i64 s, .slice A2 n2 c2, .slice A3 n3 c3, .slice A4 n4 c4] w fun e w' => e = .returned (.bool true) ∧ Below w.heap.size w w' := by
  have hrow : n2 < 65536 → GetRowSaid 21 (n3 + (2 + n2) + n4) (a ++ (dig n2 2 ++ l) ++ b) (n3 : Int) 2 n2 l ((n3 : Int) + 2 + (n2 : Int)) 0 := by
    intro h6 w A c B hr hc hB
    have hd := dig_len 2 (n2 : Int)
    have h := getrow_ok A (n3 + (2 + n2) + n4) c B n3 2 n2 _ w hc (by omega) (by omega) hr hB (by omega) (by rw [← ha.len, mid1 a (dig n2 2) l b 2 hd, num_dig 2 n2 (by omega) (by omega)]) (by omega) (by omega)
    rw [mid2 a (dig n2 2) l b (n3 + 2) n2 (by rw [ha.len, hd]) hl.len] at h
    exact h
  have HROW := Lib.hid hrow
  clear hrow
  by_cases h : noS s ∨ (s = 1 ∧ 255 < N) ∨ (s = 2 ∧ 65535 < N)
  · have P1 := Lib.hid (fun w => put_no N s w h)
    have HL := Lib.hid hl
    have HA := Lib.hid ha
    have HB := Lib.hid hb
    clear h hl ha hb
    go_enter Try.func6, Try.ntmps6
    go_wp2_with fail
    refine (P1.out _).mono ?_
    rintro e w1 ⟨rfl, rfl⟩
    have B0 : Below w.heap.size w w := Below.refl _ _
    by_cases h6 : n2 < 65536
    · have ROW := Lib.hid (HROW.out h6)
      have R1 := Lib.hid (fun w A c B (hr : Rd w B A n2 l) (hB : B ≤ w.heap.size) => putrow_ok A n2 c B 2 l w hr hB (by omega))
      have i6 : decide ((n2 : Int) ≥ 65536) = false := decide_eq_false (by omega)
      have i7 : ¬ 65536 ≤ (n2 : Int) := by omega
      go_wp2_with fail
      refine (R1.out _ _ c2 _ (HL.out.below B0 (Nat.le_refl _)) B0.size).mono ?_
      rintro e v1 ⟨A8, c8, rfl, hp1, hq1⟩
      have D1 := B0.trans (hq1.mono B0.size)
      go_wp2_with (first
        | (at_builtin; refine wpList_app rfl _ _ rfl v1.heap.size none 0 0 [] rfl OB.nil_ w.heap.size A3 n3 c3 a rfl (HA.out.below D1 (Nat.le_refl _)) n3 (by omega) a (by simp) (by omega) (Nat.le_refl _) ?_; intro A15 c15 v5 hp5 hq5)
        | (at_builtin; refine wpList_app rfl _ _ rfl v1.heap.size A15 n3 c15 a rfl hp5 v1.heap.size A8 (2 + n2) c8 (dig n2 2 ++ l) rfl (hp1.rd.below hq5 (Nat.le_refl _)) (n3 + (2 + n2)) rfl (a ++ (dig n2 2 ++ l)) rfl (by omega) hq5.size ?_; intro A16 c16 v6 hp6 hq6)
        | (at_builtin; refine wpList_app rfl _ _ rfl v1.heap.size A16 (n3 + (2 + n2)) c16 (a ++ (dig n2 2 ++ l)) rfl hp6 w.heap.size A4 n4 c4 b rfl (HB.out.below (D1.trans ((hq5.trans hq6).mono D1.size)) (Nat.le_refl _)) (n3 + (2 + n2) + n4) rfl (a ++ (dig n2 2 ++ l) ++ b) rfl (by omega) (hq5.trans hq6).size ?_; intro A17 c17 v7 hp7 hq7))
      have D7 := D1.trans (((hq5.trans hq6).trans hq7).mono D1.size)
      refine (ROW.out _ _ _ _ hp7.rd hp7.le (Nat.le_refl _)).mono ?_
      rintro e v8 ⟨A18, c18, rfl, hp8, hq8⟩
      have D8 := D7.trans (hq8.mono D7.size)
      go_wp2_with fail
      refine (same_yes A18 A2 n2 c18 c2 _ _ l v8 (by omega) hp8.rd (HL.out.below D8 (Nat.le_refl _))).mono ?_
      rintro e v9 ⟨rfl, q9, rfl⟩
      go_wp2_with fail
      refine (lives_any _).mono ?_
      rintro e v10 ⟨rfl, hb10⟩
      go_wp2_with fail
      go_returns
      exact ⟨rfl, (below_drewN D8 _).trans (hb10.mono D8.size)⟩
    · have R1 := Lib.hid (fun w A c => putrow_limit A n2 c 2 w (by omega) (.inr ⟨rfl, by omega⟩))
      have i6 : decide ((n2 : Int) ≥ 65536) = true := decide_eq_true (by omega)
      have i7 : 65536 ≤ (n2 : Int) := by omega
      go_wp2_with fail
      refine (R1.out _ _ _).mono ?_
      rintro e v1 ⟨rfl, rfl⟩
      go_wp2_with fail
      refine (lives_any _).mono ?_
      rintro e v10 ⟨rfl, hb10⟩
      go_wp2_with fail
      go_returns
      exact ⟨rfl, B0.trans (hb10.mono B0.size)⟩
  · obtain ⟨k, rfl⟩ : ∃ k : Nat, s = k := ⟨s.toNat, by unfold noS at h; omega⟩
    have ho : okN N k := by unfold noS at h; unfold okN; omega
    have hk : k = 1 ∨ k = 2 ∨ k = 4 := by unfold okN at ho; omega
    have k4 : k ≤ 4 := by omega
    have hdl := dig_len k N
    have P1 := Lib.hid (fun w => put_ok N k w m0 ho)
    have hget : GetSaid 14 (n3 + k + n4) (a ++ dig N k ++ b) (n3 : Int) (k : Int) N 0 := by
      intro w A c B hr hc
      have h := get_ok A (n3 + k + n4) c B n3 k _ w hc (by omega) hr hk (by omega)
      rw [← ha.len, mid a (dig N k) b k hdl, num_dig k N m0 (by unfold okN at ho; rcases ho with ⟨rfl, _⟩ | ⟨rfl, _⟩ | ⟨rfl, _⟩ <;> omega)] at h
      rw [← ha.len]
      exact h
    have P2 := Lib.hid hget
    have HL := Lib.hid hl
    have HA := Lib.hid ha
    have HB := Lib.hid hb
    clear hget h ho hk hdl hl ha hb
    go_enter Try.func6, Try.ntmps6
    go_wp2_with fail
    refine (P1.out _).mono ?_
    rintro e w1 ⟨A1, c1, rfl, ho1, hb1⟩
    go_wp2_with (first
      | (at_builtin; refine wpList_app rfl _ _ rfl w1.heap.size none 0 0 [] rfl OB.nil_ w.heap.size A3 n3 c3 a rfl (HA.out.below hb1 (Nat.le_refl _)) n3 (by omega) a (by simp) (by omega) (Nat.le_refl _) ?_; intro A5 c5 w5 ho5 hb5)
      | (at_builtin; refine wpList_app rfl _ _ rfl w1.heap.size A5 n3 c5 a rfl ho5 w1.heap.size A1 k c1 (dig N k) rfl (ho1.rd.below hb5 (Nat.le_refl _)) (n3 + k) rfl (a ++ dig N k) rfl (by omega) hb5.size ?_; intro A6 c6 w6 ho6 hb6)
      | (at_builtin; refine wpList_app rfl _ _ rfl w1.heap.size A6 (n3 + k) c6 (a ++ dig N k) rfl ho6 w.heap.size A4 n4 c4 b rfl (HB.out.below (hb1.trans ((hb5.trans hb6).mono hb1.size)) (Nat.le_refl _)) (n3 + k + n4) rfl (a ++ dig N k ++ b) rfl (by omega) (hb5.trans hb6).size ?_; intro A7 c7 w7 ho7 hb7))
    have B7 := hb1.trans (((hb5.trans hb6).trans hb7).mono hb1.size)
    refine (P2.out _ _ _ _ ho7.rd ho7.le).mono ?_
    rintro e w8 ⟨rfl, rfl⟩
    by_cases h6 : n2 < 65536
    · have ROW := Lib.hid (HROW.out h6)
      have R1 := Lib.hid (fun w A c B (hr : Rd w B A n2 l) (hB : B ≤ w.heap.size) => putrow_ok A n2 c B 2 l w hr hB (by omega))
      have i6 : decide ((n2 : Int) ≥ 65536) = false := decide_eq_false (by omega)
      have i7 : ¬ 65536 ≤ (n2 : Int) := by omega
      go_wp2_with fail
      refine (R1.out _ _ c2 _ (HL.out.below B7 (Nat.le_refl _)) B7.size).mono ?_
      rintro e v1 ⟨A8, c8, rfl, hp1, hq1⟩
      have D1 := B7.trans (hq1.mono B7.size)
      go_wp2_with (first
        | (at_builtin; refine wpList_app rfl _ _ rfl v1.heap.size none 0 0 [] rfl OB.nil_ w.heap.size A3 n3 c3 a rfl (HA.out.below D1 (Nat.le_refl _)) n3 (by omega) a (by simp) (by omega) (Nat.le_refl _) ?_; intro A15 c15 v5 hp5 hq5)
        | (at_builtin; refine wpList_app rfl _ _ rfl v1.heap.size A15 n3 c15 a rfl hp5 v1.heap.size A8 (2 + n2) c8 (dig n2 2 ++ l) rfl (hp1.rd.below hq5 (Nat.le_refl _)) (n3 + (2 + n2)) rfl (a ++ (dig n2 2 ++ l)) rfl (by omega) hq5.size ?_; intro A16 c16 v6 hp6 hq6)
        | (at_builtin; refine wpList_app rfl _ _ rfl v1.heap.size A16 (n3 + (2 + n2)) c16 (a ++ (dig n2 2 ++ l)) rfl hp6 w.heap.size A4 n4 c4 b rfl (HB.out.below (D1.trans ((hq5.trans hq6).mono D1.size)) (Nat.le_refl _)) (n3 + (2 + n2) + n4) rfl (a ++ (dig n2 2 ++ l) ++ b) rfl (by omega) (hq5.trans hq6).size ?_; intro A17 c17 v7 hp7 hq7))
      have D7 := D1.trans (((hq5.trans hq6).trans hq7).mono D1.size)
      refine (ROW.out _ _ _ _ hp7.rd hp7.le (Nat.le_refl _)).mono ?_
      rintro e v8 ⟨A18, c18, rfl, hp8, hq8⟩
      have D8 := D7.trans (hq8.mono D7.size)
      go_wp2_with fail
      refine (same_yes A18 A2 n2 c18 c2 _ _ l v8 (by omega) hp8.rd (HL.out.below D8 (Nat.le_refl _))).mono ?_
      rintro e v9 ⟨rfl, q9, rfl⟩
      go_wp2_with fail
      refine (lives_any _).mono ?_
      rintro e v10 ⟨rfl, hb10⟩
      go_wp2_with fail
      go_returns
      exact ⟨rfl, (below_drewN D8 _).trans (hb10.mono D8.size)⟩
    · have R1 := Lib.hid (fun w A c => putrow_limit A n2 c 2 w (by omega) (.inr ⟨rfl, by omega⟩))
      have i6 : decide ((n2 : Int) ≥ 65536) = true := decide_eq_true (by omega)
      have i7 : 65536 ≤ (n2 : Int) := by omega
      go_wp2_with fail
      refine (R1.out _ _ _).mono ?_
      rintro e v1 ⟨rfl, rfl⟩
      go_wp2_with fail
      refine (lives_any _).mono ?_
      rintro e v10 ⟨rfl, hb10⟩
      go_wp2_with fail
      go_returns
      exact ⟨rfl, B7.trans (hb10.mono B7.size)⟩
end Go.Proofs.Ytdjalolnngnioaa
