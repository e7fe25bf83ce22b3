import Derived.Test.YtihdfogcnghfaaaFi
set_option linter.unusedVariables false
namespace Go.Proofs.Ytihdfogcnghfaaa
open Go.RowKit
/-! The same types, in order. -/
theorem ty_step (l m : List Ty) (k : Nat) (hl : k < l.length) (hm : k < m.length) (x y : Ty) (hx : l.getD k (0, 0) = x) (hy : m.getD k (0, 0) = y) (hd : l = m ↔ l.drop k = m.drop k) :
    (x = y → (l = m ↔ l.drop (k + 1) = m.drop (k + 1))) ∧ (¬ x = y → ¬ l = m) := by
  rw [List.getD_eq_getElem?_getD, List.getElem?_eq_getElem hl] at hx
  rw [List.getD_eq_getElem?_getD, List.getElem?_eq_getElem hm] at hy
  rw [List.drop_eq_getElem_cons hl, List.drop_eq_getElem_cons hm] at hd
  simp only [Option.getD_some] at hx hy
  rw [hx, hy] at hd
  constructor
  · intro e
    subst e
    rw [hd]
    simp
  · intro hne e
    have := hd.1 e
    injection this with h1 _
    exact hne h1
theorem ty_ne {p1 p2 q1 q2 : Int} (h : ¬ ((p1, p2) : Ty) = (q1, q2)) : (p1 == q1) = false ∨ ((p1 == q1) = true ∧ (p2 == q2) = false) := by
  by_cases h1 : p1 = q1
  · right
    refine ⟨by simpa using h1, ?_⟩
    by_cases h2 : p2 = q2
    · exact absurd (by rw [h1, h2]) h
    · simpa using h2
  · left; simpa using h1
set_option maxHeartbeats 1000000 in
theorem types_any (A1 A2 : Option Addr) (n1 n2 c1 c2 B1 B2 : Nat) (l1 l2 : List Ty) (w : World) (hn1 : n1 ≤ 281474976710656) (hn2 : n2 ≤ 281474976710656) (h1 : RV tyR w B1 A1 n1 l1) (h2 : RV tyR w B2 A2 n2 l2) :
    Calls Try.prog 26 #[.slice A1 n1 c1, .slice A2 n2 c2] w fun e w' => e = .returned (.bool (decide (l1 = l2))) ∧ ∃ q, w' = w.drewN q := by
  by_cases hn : n1 = n2
  · subst hn
    have hneq : ((n1 : Int) != (n1 : Int)) = false := by simp
    have HL := Lib.hid (show l1.length = n1 ∧ l2.length = n1 from ⟨h1.1, h2.1⟩)
    have H1 := Lib.hid h1
    have H2 := Lib.hid h2
    clear h1 h2
    go_enter Try.func26, Try.ntmps26
    go_wp2
    go_loopw [5] (fun i wr => ∃ k q : Nat, k ≤ n1 ∧ i = .int .i64 k ∧ wr = w.drewN q ∧ (l1 = l2 ↔ l1.drop k = l2.drop k)) (fun i _ => n1 - (intOf i).toNat)
    case atStart => exact ⟨0, 0, Nat.zero_le _, rfl, rfl, by simp⟩
    case round =>
      obtain ⟨k, q, hk, rfl, rfl, hd⟩ := hrel
      by_cases hlt : k < n1
      · obtain ⟨b1, o1, rfl, _, g10, g11, _⟩ := H1.out.ty k hlt
        obtain ⟨b2, o2, rfl, _, g20, g21, _⟩ := H2.out.ty k hlt
        have HS := Lib.hid (ty_step l1 l2 k (by rw [HL.out.1]; exact hlt) (by rw [HL.out.2]; exact hlt) _ _ rfl rfl hd)
        clear hd
        generalize l1.getD k (0, 0) = x at g10 g11 HS
        generalize l2.getD k (0, 0) = y at g20 g21 HS
        obtain ⟨x1, x2⟩ := x
        obtain ⟨y1, y2⟩ := y
        simp only at g10 g11 g20 g21
        have i0 : (0 : Int) ≤ (k : Int) := by omega
        have i1 : (k : Int) < (n1 : Int) := by omega
        by_cases hxy : ((x1, x2) : Ty) = (y1, y2)
        · injection hxy with e1 e2
          subst e1
          subst e2
          have HS1 := Lib.hid (HS.out.1 rfl)
          clear HS
          have hx1 : (x1 == x1) = true := by simp
          have hx2 : (x2 == x2) = true := by simp
          go_wp2
          go_quiet (fail)
          go_wp2
          go_roundw
          case rel => exact ⟨k + 1, _, by omega, by go_num, rfl, HS1.out⟩
          case measure => simp [intOf]; omega
        · have HN := Lib.hid (HS.out.2 hxy)
          have hne := ty_ne hxy
          clear HS hxy
          rcases hne with h1 | ⟨h1, h2⟩
          all_goals
            go_wp2
            go_quiet (fail)
            go_wp2
            go_returns
            exact ⟨by rw [decide_eq_false HN.out]; rfl, by simp only [World.drewN_drewN]; exact ⟨_, rfl⟩⟩
      · obtain rfl : k = n1 := by omega
        have he : l1 = l2 := hd.2 (by rw [List.drop_of_length_le (by rw [HL.out.1]; omega), List.drop_of_length_le (by rw [HL.out.2]; omega)])
        have HE := Lib.hid (decide_eq_true he)
        clear he hd
        go_wp2
        go_returns
        exact ⟨by rw [HE.out]; rfl, q, rfl⟩
  · have hneq : ((n1 : Int) != (n2 : Int)) = true := by rw [bne_iff_ne]; omega
    have hne : decide (l1 = l2) = false := by
      refine decide_eq_false (fun e => hn ?_)
      rw [← h1.len, ← h2.len, e]
    rw [hne]
    clear h1 h2 hne hn
    go_enter Try.func26, Try.ntmps26
    go_wp2
    go_returns
    exact ⟨rfl, 0, rfl⟩
set_option maxHeartbeats 1000000 in
theorem equal_any (A1 A2 : Option Addr) (n1 n2 c1 c2 B1 B2 : Nat) (l1 l2 : List Ty) (w : World) (hn1 : n1 ≤ 281474976710656) (hn2 : n2 ≤ 281474976710656) (h1 : RV tyR w B1 A1 n1 l1) (h2 : RV tyR w B2 A2 n2 l2) :
    Calls Try.prog 42 #[.slice A1 n1 c1, .slice A2 n2 c2] w fun e w' => e = .returned (.bool (decide (l1 = l2))) ∧ ∃ q, w' = w.drewN q := by
  by_cases hn : n1 = n2
  · subst hn
    have hneq : ((n1 : Int) != (n1 : Int)) = false := by simp
    have HL := Lib.hid (show l1.length = n1 ∧ l2.length = n1 from ⟨h1.1, h2.1⟩)
    have H1 := Lib.hid h1
    have H2 := Lib.hid h2
    clear h1 h2
    go_enter Try.func42, Try.ntmps42
    go_wp2
    go_loopw [13] (fun i wr => ∃ k q : Nat, k ≤ n1 ∧ i = .int .i64 k ∧ wr = w.drewN q ∧ (l1 = l2 ↔ l1.drop k = l2.drop k)) (fun i _ => n1 - (intOf i).toNat)
    case atStart => exact ⟨0, 0, Nat.zero_le _, rfl, rfl, by simp⟩
    case round =>
      obtain ⟨k, q, hk, rfl, rfl, hd⟩ := hrel
      by_cases hlt : k < n1
      · obtain ⟨b1, o1, rfl, _, g10, g11, _⟩ := H1.out.ty k hlt
        obtain ⟨b2, o2, rfl, _, g20, g21, _⟩ := H2.out.ty k hlt
        have HS := Lib.hid (ty_step l1 l2 k (by rw [HL.out.1]; exact hlt) (by rw [HL.out.2]; exact hlt) _ _ rfl rfl hd)
        clear hd
        generalize l1.getD k (0, 0) = x at g10 g11 HS
        generalize l2.getD k (0, 0) = y at g20 g21 HS
        obtain ⟨x1, x2⟩ := x
        obtain ⟨y1, y2⟩ := y
        simp only at g10 g11 g20 g21
        have i0 : (0 : Int) ≤ (k : Int) := by omega
        have i1 : (k : Int) < (n1 : Int) := by omega
        by_cases hxy : ((x1, x2) : Ty) = (y1, y2)
        · injection hxy with e1 e2
          subst e1
          subst e2
          have HS1 := Lib.hid (HS.out.1 rfl)
          clear HS
          have hx1 : (x1 == x1) = true := by simp
          have hx2 : (x2 == x2) = true := by simp
          go_wp2
          go_quiet (fail)
          go_wp2
          go_roundw
          case rel => exact ⟨k + 1, _, by omega, by go_num, rfl, HS1.out⟩
          case measure => simp [intOf]; omega
        · have HN := Lib.hid (HS.out.2 hxy)
          have hne := ty_ne hxy
          clear HS hxy
          rcases hne with h1 | ⟨h1, h2⟩
          all_goals
            go_wp2
            go_quiet (fail)
            go_wp2
            go_returns
            exact ⟨by rw [decide_eq_false HN.out]; rfl, by simp only [World.drewN_drewN]; exact ⟨_, rfl⟩⟩
      · obtain rfl : k = n1 := by omega
        have he : l1 = l2 := hd.2 (by rw [List.drop_of_length_le (by rw [HL.out.1]; omega), List.drop_of_length_le (by rw [HL.out.2]; omega)])
        have HE := Lib.hid (decide_eq_true he)
        clear he hd
        go_wp2
        go_returns
        exact ⟨by rw [HE.out]; rfl, q, rfl⟩
  · have hneq : ((n1 : Int) != (n2 : Int)) = true := by rw [bne_iff_ne]; omega
    have hne : decide (l1 = l2) = false := by
      refine decide_eq_false (fun e => hn ?_)
      rw [← h1.len, ← h2.len, e]
    rw [hne]
    clear h1 h2 hne hn
    go_enter Try.func42, Try.ntmps42
    go_wp2
    go_returns
    exact ⟨rfl, 0, rfl⟩
/-! Same. -/
def sameSB (k1 c1 k2 c2 : Int) (l1 l2 : List Ty) : Bool := decide (((k1, c1) : Ty) = (k2, c2)) && decide (l1 = l2)
def SSameSaid (f : Nat) (n1 n2 : Nat) (k1 c1 k2 c2 : Int) (l1 l2 : List Ty) : Prop := ∀ (w : World) (A1 A2 : Option Addr) (d1 d2 B1 B2 : Nat), RV tyR w B1 A1 n1 l1 → RV tyR w B2 A2 n2 l2 → B1 ≤ w.heap.size → B2 ≤ w.heap.size →
  Calls Try.prog f #[.agg #[.slice A1 n1 d1, .int .u8 k1, .int .u16 c1], .agg #[.slice A2 n2 d2, .int .u8 k2, .int .u16 c2]] w fun e w' => e = .returned (.bool (sameSB k1 c1 k2 c2 l1 l2)) ∧ Below w.heap.size w w'
theorem tysame_any (n1 n2 : Nat) (k1 c1 k2 c2 : Int) (l1 l2 : List Ty) (hn1 : n1 ≤ 281474976710656) (hn2 : n2 ≤ 281474976710656) : SSameSaid 28 n1 n2 k1 c1 k2 c2 l1 l2 := by
  intro w A1 A2 d1 d2 B1 B2 h1 h2 hB1 hB2
  have H1 := Lib.hid h1
  have H2 := Lib.hid h2
  unfold sameSB
  have HE := Lib.hid (fun w (h1 : RV tyR w B1 A1 n1 l1) (h2 : RV tyR w B2 A2 n2 l2) => equal_any A1 A2 n1 n2 d1 d2 B1 B2 l1 l2 w hn1 hn2 h1 h2)
  clear h1 h2
  have B2' : Below w.heap.size w ((w.alloc (.cells #[.slice A1 n1 d1, .int .u8 k1, .int .u16 c1] 28)).alloc (.cells #[.slice A2 n2 d2, .int .u8 k2, .int .u16 c2] 28)) := ((Below.refl _ _).alloc (Nat.le_refl _) _).alloc (by simp) _
  have HB := Lib.hid B2'
  clear B2'
  by_cases hk : ((k1, c1) : Ty) = (k2, c2)
  · injection hk with e1 e2
    subst e1
    subst e2
    rw [decide_eq_true rfl, Bool.true_and]
    go_enter Try.func28, Try.ntmps28
    go_wp2_with fail
    refine (HE.out _ ((H1.out.alloc hB1 _).alloc (by simp; omega) _) ((H2.out.alloc hB2 _).alloc (by simp; omega) _)).mono ?_
    rintro e w1 ⟨rfl, q, rfl⟩
    go_wp2_with fail
    go_returns
    exact ⟨rfl, below_drewN HB.out _⟩
  · rw [decide_eq_false hk, Bool.false_and]
    rcases ty_ne hk with h | ⟨h, h2⟩
    all_goals
      clear hk
      go_enter Try.func28, Try.ntmps28
      go_wp2_with fail
      go_returns
      exact ⟨rfl, HB.out⟩
theorem reftysame_any (n1 n2 : Nat) (k1 c1 k2 c2 : Int) (l1 l2 : List Ty) (hn1 : n1 ≤ 281474976710656) (hn2 : n2 ≤ 281474976710656) : SSameSaid 29 n1 n2 k1 c1 k2 c2 l1 l2 := by
  intro w A1 A2 d1 d2 B1 B2 h1 h2 hB1 hB2
  have H1 := Lib.hid h1
  have H2 := Lib.hid h2
  unfold sameSB
  have HE := Lib.hid (fun w (h1 : RV tyR w B1 A1 n1 l1) (h2 : RV tyR w B2 A2 n2 l2) => types_any A1 A2 n1 n2 d1 d2 B1 B2 l1 l2 w hn1 hn2 h1 h2)
  clear h1 h2
  have B2' : Below w.heap.size w ((w.alloc (.cells #[.slice A1 n1 d1, .int .u8 k1, .int .u16 c1] 28)).alloc (.cells #[.slice A2 n2 d2, .int .u8 k2, .int .u16 c2] 28)) := ((Below.refl _ _).alloc (Nat.le_refl _) _).alloc (by simp) _
  have HB := Lib.hid B2'
  clear B2'
  by_cases hk : ((k1, c1) : Ty) = (k2, c2)
  · injection hk with e1 e2
    subst e1
    subst e2
    rw [decide_eq_true rfl, Bool.true_and]
    go_enter Try.func29, Try.ntmps29
    go_wp2_with fail
    refine (HE.out _ ((H1.out.alloc hB1 _).alloc (by simp; omega) _) ((H2.out.alloc hB2 _).alloc (by simp; omega) _)).mono ?_
    rintro e w1 ⟨rfl, q, rfl⟩
    go_wp2_with fail
    go_returns
    exact ⟨rfl, below_drewN HB.out _⟩
  · rw [decide_eq_false hk, Bool.false_and]
    rcases ty_ne hk with h | ⟨h, h2⟩
    all_goals
      clear hk
      go_enter Try.func29, Try.ntmps29
      go_wp2_with fail
      go_returns
      exact ⟨rfl, HB.out⟩
end Go.Proofs.Ytihdfogcnghfaaa
