import Derived.Test.YtojekhalpedfhaaEa
set_option linter.unusedVariables false
namespace Go.Proofs.Ytojekhalpedfhaa
open Go.RowKit
/-! The document's Same and Ahead; the layer's functions that only read. -/
theorem same_any (A1 A2 : Option Addr) (n1 n2 c1 c2 B1 B2 : Nat) (l1 l2 : List Int) (w : World) (hn1 : n1 ≤ 281474976710656) (hn2 : n2 ≤ 281474976710656) (h1 : Rd w B1 A1 n1 l1) (h2 : Rd w B2 A2 n2 l2) :
    Calls Try.prog 15 #[.slice A1 n1 c1, .slice A2 n2 c2] w fun e w' => e = .returned (.bool (decide (l1 = l2))) ∧ ∃ q, w' = w.drewN q := by
  by_cases he : l1 = l2
  · subst he
    obtain rfl : n1 = n2 := by rw [← h1.len, ← h2.len]
    rw [decide_eq_true rfl]
    exact same_yes A1 A2 n1 c1 c2 B1 B2 l1 w hn1 h1 h2
  · rw [decide_eq_false he]
    by_cases hn : n1 = n2
    · subst hn
      by_cases h0 : n1 = 0
      · subst h0
        exact absurd (h1.zero.trans h2.zero.symm) he
      · obtain ⟨b1, o1, rfl, _, hc1⟩ := h1.2.2 (by omega)
        obtain ⟨b2, o2, rfl, _, hc2⟩ := h2.2.2 (by omega)
        have hneq : ((n1 : Int) != (n1 : Int)) = false := by simp
        have HE := Lib.hid he
        have HL := Lib.hid (show l1.length = n1 ∧ l2.length = n1 from ⟨h1.1, h2.1⟩)
        have HC1 := Lib.hid hc1
        have HC2 := Lib.hid hc2
        have HR1 := Lib.hid h1.rg
        have HR2 := Lib.hid h2.rg
        clear hc1 hc2 h1 h2 he
        go_enter Try.func15, Try.ntmps15
        go_wp2
        go_loopw [5] (fun i wr => ∃ k q : Nat, k ≤ n1 ∧ i = .int .i64 k ∧ wr = w.drewN q ∧ (l1 = l2 ↔ l1.drop k = l2.drop k)) (fun i _ => n1 - (intOf i).toNat)
        case atStart => exact ⟨0, 0, Nat.zero_le _, rfl, rfl, by simp⟩
        case round =>
          obtain ⟨k, q, hk, rfl, rfl, hd⟩ := hrel
          by_cases hlt : k < n1
          · have g1 := HC1.out k hlt
            have g2 := HC2.out k hlt
            obtain ⟨x0, x1⟩ := rng_getD HR1.out k
            obtain ⟨y0, y1⟩ := rng_getD HR2.out k
            have HS := Lib.hid (same_step l1 l2 k (by rw [HL.out.1]; exact hlt) (by rw [HL.out.2]; exact hlt) _ _ rfl rfl hd)
            clear hd
            generalize l1.getD k 0 = x at g1 x0 x1 HS
            generalize l2.getD k 0 = y at g2 y0 y1 HS
            have i0 : (0 : Int) ≤ (k : Int) := by omega
            have i1 : (k : Int) < (n1 : Int) := by omega
            by_cases hxy : x = y
            · subst hxy
              have HS1 := Lib.hid (HS.out.1 rfl)
              clear HS
              have hx : (x != x) = false := by simp
              go_wp2
              go_quiet (fail)
              go_wp2
              go_roundw
              case rel => exact ⟨k + 1, _, by omega, by go_num, rfl, HS1.out⟩
              case measure => simp [intOf]; omega
            · have hx : (x != y) = true := by simpa using hxy
              go_wp2
              go_quiet (fail)
              go_wp2
              go_returns
              exact ⟨rfl, by simp only [World.drewN_drewN]; exact ⟨_, rfl⟩⟩
          · obtain rfl : k = n1 := by omega
            have : l1 = l2 := hd.2 (by rw [List.drop_of_length_le (by rw [HL.out.1]; omega), List.drop_of_length_le (by rw [HL.out.2]; omega)])
            exact absurd this HE.out
    · have hneq : ((n1 : Int) != (n2 : Int)) = true := by rw [bne_iff_ne]; omega
      clear h1 h2 he
      go_enter Try.func15, Try.ntmps15
      go_wp2
      go_returns
      exact ⟨rfl, 0, rfl⟩
def mayB (n : Nat) : Bool := decide (5 ≤ n) && decide (n ≤ 16)
theorem mayB_yes {n : Nat} (h : mayB n = true) : 5 ≤ n ∧ n ≤ 16 := by simpa [mayB] using h
theorem mayB_no {n : Nat} (h : mayB n = false) : n < 5 ∨ 16 < n := by simp [mayB] at h; omega
theorem may_any (A : Option Addr) (n c : Nat) (w : World) (hn : n ≤ 281474976710656) :
    Calls Try.prog 13 #[.slice A n c] w fun e w' => e = .returned (.bool (mayB n)) ∧ w = w' := by
  unfold mayB
  by_cases h5 : 5 ≤ n
  · have h5' : (5 : Int) ≤ n := by omega
    rw [decide_eq_true h5, Bool.true_and]
    by_cases h16 : n ≤ 16
    · have h16' : (n : Int) ≤ 16 := by omega
      rw [decide_eq_true h16]
      go_enter Try.func13, Try.ntmps13
      go_wp2
      go_returns
      exact ⟨rfl, rfl⟩
    · have h16' : ¬ (n : Int) ≤ 16 := by omega
      rw [decide_eq_false h16]
      go_enter Try.func13, Try.ntmps13
      go_wp2
      go_returns
      exact ⟨rfl, rfl⟩
  · have h5' : ¬ (5 : Int) ≤ n := by omega
    rw [decide_eq_false h5, Bool.false_and]
    go_enter Try.func13, Try.ntmps13
    go_wp2
    go_returns
    exact ⟨rfl, rfl⟩
theorem refmay_any (A : Option Addr) (n c : Nat) (w : World) (hn : n ≤ 281474976710656) :
    Calls Try.prog 14 #[.slice A n c] w fun e w' => e = .returned (.bool (mayB n)) ∧ w = w' := by
  unfold mayB
  by_cases h5 : 5 ≤ n
  · have h5' : (5 : Int) ≤ n := by omega
    rw [decide_eq_true h5, Bool.true_and]
    by_cases h16 : n ≤ 16
    · have h16' : (n : Int) ≤ 16 := by omega
      rw [decide_eq_true h16]
      go_enter Try.func14, Try.ntmps14
      go_wp2
      go_returns
      exact ⟨rfl, rfl⟩
    · have h16' : ¬ (n : Int) ≤ 16 := by omega
      rw [decide_eq_false h16]
      go_enter Try.func14, Try.ntmps14
      go_wp2
      go_returns
      exact ⟨rfl, rfl⟩
  · have h5' : ¬ (5 : Int) ≤ n := by omega
    rw [decide_eq_false h5, Bool.false_and]
    go_enter Try.func14, Try.ntmps14
    go_wp2
    go_returns
    exact ⟨rfl, rfl⟩
theorem aidsame_any (A1 A2 : Option Addr) (n1 n2 c1 c2 B1 B2 : Nat) (l1 l2 : List Int) (w : World) (h1 : Rd w B1 A1 n1 l1) (h2 : Rd w B2 A2 n2 l2) :
    Calls Try.prog 17 #[.slice A1 n1 c1, .slice A2 n2 c2] w fun e w' => e = .returned (.bool (decide (l1 = l2))) ∧ w = w' := by
  have C := Lib.hid (equal_any A1 A2 n1 n2 c1 c2 B1 B2 l1 l2 w h1 h2)
  clear h1 h2
  go_enter Try.func17, Try.ntmps17
  go_wp2_with ((refine C.out.mono ?_); rintro e w' ⟨rfl, rfl⟩)
  go_returns
  exact ⟨rfl, rfl⟩
theorem refsame_any (A1 A2 : Option Addr) (n1 n2 c1 c2 B1 B2 : Nat) (l1 l2 : List Int) (w : World) (hn1 : n1 ≤ 281474976710656) (hn2 : n2 ≤ 281474976710656) (h1 : Rd w B1 A1 n1 l1) (h2 : Rd w B2 A2 n2 l2) :
    Calls Try.prog 18 #[.slice A1 n1 c1, .slice A2 n2 c2] w fun e w' => e = .returned (.bool (decide (l1 = l2))) ∧ ∃ q, w' = w.drewN q := by
  have C := Lib.hid (same_any A1 A2 n1 n2 c1 c2 B1 B2 l1 l2 w hn1 hn2 h1 h2)
  clear h1 h2
  go_enter Try.func18, Try.ntmps18
  go_wp2_with ((refine C.out.mono ?_); rintro e w' ⟨rfl, q, rfl⟩)
  go_returns
  exact ⟨rfl, _, rfl⟩
theorem ahead_any (A1 A2 : Option Addr) (n1 n2 c1 c2 B1 B2 : Nat) (l1 l2 : List Int) (w : World) (h1 : Rd w B1 A1 n1 l1) (h2 : Rd w B2 A2 n2 l2) :
    Calls Try.prog 23 #[.slice A1 n1 c1, .slice A2 n2 c2] w fun e w' => e = .returned (.bool (lessZ l1 l2)) ∧ w = w' := by
  have C := Lib.hid (compare_any A1 A2 n1 n2 c1 c2 B1 B2 l1 l2 w h1 h2)
  unfold lessZ
  clear h1 h2
  go_enter Try.func23, Try.ntmps23
  go_wp2_with ((refine C.out.mono ?_); rintro e w' ⟨rfl, rfl⟩)
  go_returns
  exact ⟨rfl, rfl⟩
theorem refahead_any (A1 A2 : Option Addr) (n1 n2 c1 c2 B1 B2 : Nat) (l1 l2 : List Int) (w : World) (hn1 : n1 ≤ 281474976710656) (hn2 : n2 ≤ 281474976710656) (h1 : Rd w B1 A1 n1 l1) (h2 : Rd w B2 A2 n2 l2) :
    Calls Try.prog 24 #[.slice A1 n1 c1, .slice A2 n2 c2] w fun e w' => e = .returned (.bool (lessZ l1 l2)) ∧ ∃ q, w' = w.drewN q := by
  have HL := Lib.hid (show l1.length = n1 ∧ l2.length = n2 from ⟨h1.1, h2.1⟩)
  have HR1 := Lib.hid h1.rg
  have HR2 := Lib.hid h2.rg
  have HC1 := Lib.hid (show ∀ i, i < n1 → ∃ b o, A1 = some ⟨b, o, none⟩ ∧ w.cell? ⟨b, o + i, none⟩ = some (.int .u8 (l1.getD i 0)) from fun i hi => by
    obtain ⟨b, o, e, _, hc⟩ := h1.2.2 (by omega); exact ⟨b, o, e, hc i hi⟩)
  have HC2 := Lib.hid (show ∀ i, i < n2 → ∃ b o, A2 = some ⟨b, o, none⟩ ∧ w.cell? ⟨b, o + i, none⟩ = some (.int .u8 (l2.getD i 0)) from fun i hi => by
    obtain ⟨b, o, e, _, hc⟩ := h2.2.2 (by omega); exact ⟨b, o, e, hc i hi⟩)
  clear h1 h2
  go_enter Try.func24, Try.ntmps24
  go_wp2
  go_loopw [5] (fun i wr => ∃ k q : Nat, k ≤ n1 ∧ k ≤ n2 ∧ i = .int .i64 k ∧ wr = w.drewN q ∧ lessZ l1 l2 = lessZ (l1.drop k) (l2.drop k)) (fun i _ => n1 - (intOf i).toNat)
  case atStart => exact ⟨0, 0, Nat.zero_le _, Nat.zero_le _, rfl, rfl, by simp⟩
  case round =>
    obtain ⟨k, q, hk, hk2, rfl, rfl, hd⟩ := hrel
    by_cases hlt : k < n1 ∧ k < n2
    · obtain ⟨b1, o1, rfl, g1⟩ := HC1.out k hlt.1
      obtain ⟨b2, o2, rfl, g2⟩ := HC2.out k hlt.2
      obtain ⟨x0, x1⟩ := rng_getD HR1.out k
      obtain ⟨y0, y1⟩ := rng_getD HR2.out k
      have HS := Lib.hid (less_step l1 l2 k (by rw [HL.out.1]; exact hlt.1) (by rw [HL.out.2]; exact hlt.2) _ _ rfl rfl hd)
      clear hd
      generalize l1.getD k 0 = x at g1 x0 x1 HS
      generalize l2.getD k 0 = y at g2 y0 y1 HS
      have i0 : (0 : Int) ≤ (k : Int) := by omega
      have i1 : (k : Int) < (n1 : Int) := by omega
      have i2 : (k : Int) < (n2 : Int) := by omega
      clear hlt
      by_cases hxy : x = y
      · subst hxy
        have HS1 := Lib.hid (HS.out.1 rfl)
        clear HS
        have hx : (x != x) = false := by simp
        go_wp2
        go_quiet (fail)
        go_wp2
        go_roundw
        case rel => exact ⟨k + 1, _, by omega, by omega, by go_num, rfl, HS1.out⟩
        case measure => simp [intOf]; omega
      · have hx : (x != y) = true := by simpa using hxy
        go_wp2
        go_quiet (fail)
        go_wp2
        go_quiet (fail)
        go_wp2
        go_returns
        refine ⟨?_, by simp only [World.drewN_drewN]; exact ⟨_, rfl⟩⟩
        by_cases hl : x < y
        · rw [HS.out.2.1 hl, decide_eq_true hl]; rfl
        · rw [HS.out.2.2 (by omega), decide_eq_false hl]; rfl
    · have HF := Lib.hid (less_end l1 l2 k (by rw [HL.out.1]; exact hk) (by rw [HL.out.2]; exact hk2) (by rw [HL.out.1, HL.out.2]; omega) hd)
      clear hd
      by_cases h1 : k < n1
      · have i1 : (k : Int) < (n1 : Int) := by omega
        have i2 : ¬ (k : Int) < (n2 : Int) := by omega
        go_wp2
        go_returns
        refine ⟨?_, _, rfl⟩
        rw [HF.out, HL.out.1, HL.out.2]
        simp
      · have i1 : ¬ (k : Int) < (n1 : Int) := by omega
        go_wp2
        go_returns
        refine ⟨?_, _, rfl⟩
        rw [HF.out, HL.out.1, HL.out.2]
        simp
theorem begins_any (A1 A2 : Option Addr) (n1 n2 c1 c2 B1 B2 : Nat) (l1 l2 : List Int) (w : World) (hc : n1 ≤ c1) (hn1 : n1 ≤ 281474976710656) (hn2 : n2 ≤ 281474976710656) (h1 : Rd w B1 A1 n1 l1) (h2 : Rd w B2 A2 n2 l2) :
    Calls Try.prog 21 #[.slice A1 n1 c1, .slice A2 n2 c2] w fun e w' => e = .returned (.bool (decide (5 ≤ n2) && decide (l1.take n2 = l2))) ∧ w = w' := by
  have C := Lib.hid (prefix_any A1 A2 n1 n2 c1 c2 B1 B2 l1 l2 w hc h1 h2 hn1 hn2)
  clear h1 h2
  by_cases h5 : 5 ≤ n2
  · have h5' : (5 : Int) ≤ n2 := by omega
    rw [decide_eq_true h5, Bool.true_and]
    go_enter Try.func21, Try.ntmps21
    go_wp2_with ((refine C.out.mono ?_); rintro e w' ⟨rfl, rfl⟩)
    go_returns
    exact ⟨rfl, rfl⟩
  · have h5' : ¬ (5 : Int) ≤ n2 := by omega
    rw [decide_eq_false h5, Bool.false_and]
    go_enter Try.func21, Try.ntmps21
    go_wp2
    go_returns
    exact ⟨rfl, rfl⟩
theorem refbegins_any (A1 A2 : Option Addr) (n1 n2 c1 c2 B1 B2 : Nat) (l1 l2 : List Int) (w : World) (hc : n1 ≤ c1) (hn1 : n1 ≤ 281474976710656) (hn2 : n2 ≤ 281474976710656) (h1 : Rd w B1 A1 n1 l1) (h2 : Rd w B2 A2 n2 l2) :
    Calls Try.prog 22 #[.slice A1 n1 c1, .slice A2 n2 c2] w fun e w' => e = .returned (.bool (decide (5 ≤ n2) && decide (l1.take n2 = l2))) ∧ ∃ q, w' = w.drewN q := by
  by_cases h5 : 5 ≤ n2
  · have h5' : (5 : Int) ≤ n2 := by omega
    rw [decide_eq_true h5, Bool.true_and]
    by_cases h : n2 ≤ n1
    · have h' : (n2 : Int) ≤ n1 := by omega
      have hR : Rd w B1 A1 n2 (l1.take n2) := by
        have := h1.cut (i := 0) (m := n2) (A' := A1) (by omega) (fun hm => by cases A1 <;> simp [Addr.add_zero'])
        simpa using this
      have C := Lib.hid (fun c => same_any A1 A2 n2 n2 c c2 B1 B2 _ _ w hn2 hn2 hR h2)
      clear h1 h2 hR
      go_enter Try.func22, Try.ntmps22
      go_wp2_with ((refine (C.out _).mono ?_); rintro e w' ⟨rfl, q, rfl⟩)
      go_returns
      exact ⟨rfl, _, rfl⟩
    · have hne : ¬ l1.take n2 = l2 := by
        intro e
        have := congrArg List.length e
        rw [List.length_take, h1.len, h2.len] at this
        omega
      rw [decide_eq_false hne]
      have h' : ¬ (n2 : Int) ≤ n1 := by omega
      clear h1 h2 hne
      go_enter Try.func22, Try.ntmps22
      go_wp2
      go_returns
      exact ⟨rfl, 0, rfl⟩
  · have h5' : ¬ (5 : Int) ≤ n2 := by omega
    rw [decide_eq_false h5, Bool.false_and]
    clear h1 h2
    go_enter Try.func22, Try.ntmps22
    go_wp2
    go_returns
    exact ⟨rfl, 0, rfl⟩
def issB (n1 n2 : Nat) (l1 l2 : List Int) : Bool := mayB n1 && mayB n2 && decide (l1.take 5 = l2.take 5)
theorem rd_five {w : World} {B n : Nat} {A : Option Addr} {l : List Int} (h : Rd w B A n l) (hm : mayB n = true) : Rd w B A 5 (l.take 5) := by
  have := mayB_yes hm
  have := h.cut (i := 0) (m := 5) (A' := A) (by omega) (fun hm => by cases A <;> simp [Addr.add_zero'])
  simpa using this
theorem quiet_same {f : FuncId} {args : Array Value} {w : World} {n : Nat} {v : Value} (h : Calls Try.prog f args (w.drewN n) fun e w' => e = .returned v ∧ w.drewN n = w') :
    Calls Try.prog f args (w.drewN n) fun e w'' => e = .returned v ∧ ∃ m, w'' = w.drewN m := h.mono fun _ _ ⟨he, hm⟩ => ⟨he, n, hm.symm⟩
theorem issuer_any (A1 A2 : Option Addr) (n1 n2 c1 c2 B1 B2 : Nat) (l1 l2 : List Int) (w : World) (hc1 : n1 ≤ c1) (hc2 : n2 ≤ c2) (hn1 : n1 ≤ 281474976710656) (hn2 : n2 ≤ 281474976710656) (h1 : Rd w B1 A1 n1 l1) (h2 : Rd w B2 A2 n2 l2) :
    Calls Try.prog 19 #[.slice A1 n1 c1, .slice A2 n2 c2] w fun e w' => e = .returned (.bool (issB n1 n2 l1 l2)) ∧ ∃ q, w' = w.drewN q := by
  unfold issB
  have M1 := Lib.hid (fun w => may_any A1 n1 c1 w hn1)
  have M2 := Lib.hid (fun w => may_any A2 n2 c2 w hn2)
  cases hm1 : mayB n1
  · rw [hm1] at M1
    clear h1 h2
    go_enter Try.func19, Try.ntmps19
    go_wp2
    go_quiet ((with_reducible exact quiet_same (M1.out _)))
    go_wp2
    go_returns
    exact ⟨rfl, _, rfl⟩
  · cases hm2 : mayB n2
    · rw [hm1] at M1
      rw [hm2] at M2
      clear h1 h2
      go_enter Try.func19, Try.ntmps19
      go_wp2
      go_quiet ((first | (with_reducible exact quiet_same (M1.out _)) | (with_reducible exact quiet_same (M2.out _))))
      go_wp2
      go_returns
      exact ⟨rfl, _, rfl⟩
    · have C := Lib.hid (fun q a b => aidsame_any A1 A2 5 5 a b B1 B2 _ _ (w.drewN q) ((rd_five h1 hm1).drewN q) ((rd_five h2 hm2).drewN q))
      have k1 := mayB_yes hm1
      have k2 := mayB_yes hm2
      have e1 : (5 : Int) ≤ c1 := by omega
      have e2 : (5 : Int) ≤ c2 := by omega
      rw [hm1] at M1
      rw [hm2] at M2
      clear h1 h2
      go_enter Try.func19, Try.ntmps19
      go_wp2
      go_quiet ((first | (with_reducible exact quiet_same (M1.out _)) | (with_reducible exact quiet_same (M2.out _)) | (with_reducible exact quiet_same (C.out _ _ _))))
      go_wp2
      go_returns
      exact ⟨rfl, _, rfl⟩
end Go.Proofs.Ytojekhalpedfhaa
