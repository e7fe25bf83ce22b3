import Derived.Test.YtkagfipehmdmjaaDoorGg
set_option linter.unusedVariables false
namespace Go.Proofs.YtkagfipehmdmjaaDoor
open Go.RowKit
/-! The document's Named, All, Access; the code's Access. -/
def pairsD : List (List UInt8) → Nat → List Pair
  | [], _ => []
  | x :: r, i => if x = [45] then pairsD r (i + 1) else ((i : Int), x) :: pairsD r (i + 1)
def namedD : List (List UInt8) → Nat → List UInt8 → Int × Int
  | [], _, _ => (0, 6)
  | x :: r, i, s => if x = s ∧ s ≠ [45] then ((i : Int), 0) else namedD r (i + 1) s
theorem namedD_eq (s : List UInt8) : ∀ (l : List (List UInt8)) (i : Nat), namedD l i s = namedL (pairsD l i) s := by
  intro l
  induction l with
  | nil => intro i; rfl
  | cons x r ih =>
    intro i
    unfold namedD pairsD
    by_cases hx : x = [45]
    · rw [if_pos hx, if_neg (by rintro ⟨h1, h2⟩; exact h2 (h1 ▸ hx)), ih]
    · rw [if_neg hx]
      unfold namedL
      by_cases hs : x = s
      · rw [if_pos ⟨hs, fun h => hx (hs.trans h)⟩, if_pos hs]
      · rw [if_neg (fun h => hs h.1), if_neg hs, ih]
theorem rowsC_eq : rowsC = pairsD nms 0 := by decide +kernel
theorem named_eq (s : List UInt8) : namedD nms 0 s = namedL rowsC s := by rw [rowsC_eq, namedD_eq]
theorem nms_drop (k : Nat) (h : k < 150) : nms.drop k = nms.getD k [] :: nms.drop (k + 1) := by
  rw [List.drop_eq_getElem_cons (by rw [nms_len]; exact h), List.getD_eq_getElem?_getD, List.getElem?_eq_getElem (by rw [nms_len]; exact h)]
  rfl
theorem nms_end : nms.drop 150 = [] := List.drop_of_length_le (by rw [nms_len]; exact Nat.le_refl _)
theorem RV.str {w : World} {B : Nat} {g off n : Nat} {l : List (List UInt8)} (h : RV strR w B (some ⟨g, off, none⟩) n l) (k : Nat) (hk : k < n) : w.cell? ⟨g, off + k, none⟩ = some (.string ⟨(l.getD k []).toArray⟩) := by
  obtain ⟨b, o, e, _, hc⟩ := h.2.2 (by omega)
  cases e
  have := hc k hk 0 (by decide)
  have e2 : off + (k * strR.m + 0) = off + k := by show off + (k * 1 + 0) = off + k; omega
  rw [e2] at this
  exact this
set_option maxRecDepth 100000 in
theorem refnamed_any (s : List UInt8) : NamedSaid 14 s (namedD nms 0 s) := by
  intro w T
  clear T
  have HN := Lib.hid names_any
  have HD := Lib.hid nms_drop
  have HE := Lib.hid nms_end
  generalize hans : namedD nms 0 s = ans
  have HA0 := Lib.hid hans
  clear hans
  obtain ⟨x, y⟩ := ans
  go_enter Tryd.func14, Tryd.ntmps14
  go_wp2_with fail
  refine (HN.out _).mono ?_
  rintro e w1 ⟨rfl, hr, hb⟩
  have HR := Lib.hid hr
  have HB := Lib.hid hb
  have z1 : w.heap.size < w1.heap.size := by
    obtain ⟨b, off, e, hb2, _⟩ := hr.2.2 (by decide)
    cases e
    exact hb2
  clear hr hb
  go_wp2_with fail
  go_loop [5] (fun i => ∃ k : Nat, k ≤ 150 ∧ i = .int .i64 k ∧ namedD (nms.drop k) k s = (x, y)) (fun i => 150 - (intOf i).toNat)
  case atStart => exact ⟨0, Nat.zero_le _, rfl, HA0.out⟩
  case round =>
    obtain ⟨k, hk, rfl, hn⟩ := hrel
    by_cases hlt : k < 150
    · have g := HR.out.str k hlt
      rw [HD.out k hlt] at hn
      unfold namedD at hn
      generalize nms.getD k [] = nm at g hn
      rw [Nat.zero_add] at g
      have i0 : (0 : Int) ≤ (k : Int) := by omega
      have i1 : (k : Int) < 150 := by omega
      have i2 : (k : Int) % 256 = k := by omega
      by_cases hs : nm = s
      · by_cases hm : s = [45]
        · rw [if_neg (fun h => h.2 hm)] at hn
          have HN1 := Lib.hid hn
          subst hs
          have b2 : (nm == [45]) = true := by simpa using hm
          clear hn hm
          go_wp2_with fail
          go_round
          case rel => exact ⟨k + 1, by omega, by go_num, HN1.out⟩
          case measure => simp [intOf]; omega
        · rw [if_pos ⟨hs, hm⟩] at hn
          have HN1 := Lib.hid hn
          subst hs
          have b2 : (nm == [45]) = false := by simpa using hm
          clear hn hm
          go_wp2_with fail
          go_returns
          have h3 := HN1.out
          simp only [Prod.mk.injEq] at h3
          obtain ⟨rfl, rfl⟩ := h3
          exact ⟨rfl, HB.out⟩
      · rw [if_neg (fun h => hs h.1)] at hn
        have HN1 := Lib.hid hn
        have b1 : (nm == s) = false := by simpa using hs
        clear hn hs
        go_wp2_with fail
        go_round
        case rel => exact ⟨k + 1, by omega, by go_num, HN1.out⟩
        case measure => simp [intOf]; omega
    · obtain rfl : k = 150 := by omega
      rw [HE.out] at hn
      have HN1 := Lib.hid hn
      clear hn
      go_wp2_with fail
      go_returns
      have h3 := HN1.out
      unfold namedD at h3
      simp only [Prod.mk.injEq] at h3
      obtain ⟨rfl, rfl⟩ := h3
      exact ⟨rfl, HB.out⟩
/-! All of the document. -/
theorem nums_eq : (pairsD nms 0).map (·.1) = numsC := by rw [numsC, rowsC_eq]
theorem OV_cap {R : Rec Int} {e : TypeId} {w : World} {S : Nat → Prop} {A : Option Addr} {n c : Nat} {l : List Int} (h : OV R e w S A n c l) : n = l.length := h.1.symm
set_option maxRecDepth 100000 in
set_option maxHeartbeats 1000000 in
theorem refall_any : AllSaid 16 numsC := by
  intro w T
  clear T
  have HN := Lib.hid names_any
  have HD := Lib.hid nms_drop
  have HE := Lib.hid nms_end
  have HL := Lib.hid numsC_len
  have HQ := Lib.hid nums_eq
  go_enter Tryd.func16, Tryd.ntmps16
  go_wp2_with fail
  refine (HN.out _).mono ?_
  rintro e w1 ⟨rfl, hr, hb⟩
  have HR := Lib.hid hr
  have HB := Lib.hid hb
  have z1 : w.heap.size < w1.heap.size := by
    obtain ⟨b, off, e, hb2, _⟩ := hr.2.2 (by decide)
    cases e
    exact hb2
  clear hr hb
  go_wp2_with fail
  go_loopw [1, 3] (fun v i wr => ∃ (k N d : Nat) (A : Option Addr) (l : List Int), k ≤ 150 ∧ i = .int .i64 k ∧ v = .slice A N d ∧ OO wr (Lt w1.heap.size) A N d l ∧ l ++ (pairsD (nms.drop k) k).map (·.1) = numsC ∧ Below w1.heap.size w1 wr) (fun _ i _ => 150 - (intOf i).toNat)
  case atStart => exact ⟨0, 0, 0, none, [], Nat.zero_le _, rfl, rfl, OV.nil_, HQ.out, Below.refl _ _⟩
  case round =>
    obtain ⟨k, N, d, A, l, hk, rfl, rfl, hO, hn, hbr⟩ := hrel
    by_cases hlt : k < 150
    · have g0 := HR.out.str k hlt
      have g := (hbr.cell (p := ⟨w.heap.size, 0 + k, none⟩) z1).trans g0
      clear g0
      rw [HD.out k hlt] at hn
      unfold pairsD at hn
      generalize nms.getD k [] = nm at g hn
      rw [Nat.zero_add] at g
      have i0 : (0 : Int) ≤ (k : Int) := by omega
      have i1 : (k : Int) < 150 := by omega
      have i2 : (k : Int) % 256 = k := by omega
      have hz := hbr.size
      have HBr := Lib.hid hbr
      have HO := Lib.hid hO
      clear hbr hO
      by_cases hm : nm = [45]
      · rw [if_pos hm] at hn
        have HN1 := Lib.hid hn
        have b2 : (nm == [45]) = true := by simpa using hm
        clear hn hm
        go_wp2_with fail
        go_roundw
        case rel => exact ⟨k + 1, N, d, A, l, by omega, by go_num, rfl, HO.out, HN1.out, HBr.out⟩
        case measure => simp [intOf]; omega
      · rw [if_neg hm, List.map_cons] at hn
        have hN1 : N + 1 ≤ 102 := by
          have h1 := congrArg List.length hn
          rw [HL.out, List.length_append, List.length_cons, HO.out.1] at h1
          omega
        have hx2 : l ++ [(k : Int)] ++ (pairsD (nms.drop (k + 1)) (k + 1)).map (·.1) = numsC := by
          rw [List.append_assoc]; exact hn
        have HN2 := Lib.hid hx2
        have b2 : (nm == [45]) = false := by simpa using hm
        clear hn hm hx2
        go_wp2_with (at_builtin; refine wpList_appV opFit rfl _ _ rfl (Lt w1.heap.size) A _ d _ rfl (OV.alloc HO.out _) _ _ 1 1 [(k : Int)] rfl (rv_lit wr (k : Int) (by omega) (by omega)) (N + 1) rfl (l ++ [(k : Int)]) rfl (by omega) (by intro j h; (have h2 : j < w1.heap.size := h); simp; omega) ?_; intro A4 d4 w4 ho4 hb4)
        have HB4 := Lib.hid ((HBr.out.alloc hz _).trans (hb4.below (B := w1.heap.size) (fun j hj => hj)))
        have HO4 := Lib.hid ho4
        clear ho4 hb4
        go_roundw
        case rel => exact ⟨k + 1, N + 1, d4, A4, l ++ [(k : Int)], by omega, by go_num, rfl, HO4.out, HN2.out, HB4.out⟩
        case measure => simp [intOf]; omega
    · obtain rfl : k = 150 := by omega
      rw [HE.out] at hn
      have hn2 : l = numsC := by
        have : (pairsD ([] : List (List UInt8)) 150).map (·.1) = ([] : List Int) := rfl
        rw [this, List.append_nil] at hn
        exact hn
      have HNr := Lib.hid hn2
      have HBr := Lib.hid (HB.out.trans (hbr.mono HB.out.size))
      have HOr := Lib.hid (OV.less hO (S' := Lt w.heap.size) (fun j (h : j < w.heap.size) => (show j < w1.heap.size by omega)))
      clear hn hn2 hbr hO
      go_wp2_with fail
      go_returns
      have hl := HOr.out.1
      rw [HNr.out] at hl
      have ho := HOr.out
      rw [HNr.out] at ho
      subst hl
      exact ⟨A, d, rfl, ho, HBr.out⟩
end Go.Proofs.YtkagfipehmdmjaaDoor
