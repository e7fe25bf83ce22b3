import Derived.Test.YtkagfipehmdmjaaDoorGh
set_option linter.unusedVariables false
namespace Go.Proofs.YtkagfipehmdmjaaDoor
open Go.RowKit
/-! Access of both. -/
def accs : List Int := [36, 37, 38, 55, 56, 57, 127, 131, 132, 133, 135, 136, 137, 139, 140, 142, 146, 147, 148, 149]
def accB (o : Int) : Bool := accs.contains o
def AccSaid (f : Nat) (o : Int) : Prop := ∀ w : World, Calls Tryd.prog f #[.int .u8 o] w fun e w' => e = .returned (.bool (accB o)) ∧ Below w.heap.size w w'
set_option maxHeartbeats 1000000 in
theorem acc_any (o : Int) : AccSaid 10 o := by
  intro w
  go_enter Tryd.func10, Tryd.ntmps10
  go_wp2
  all_goals
    go_returns
  all_goals
    refine ⟨congrArg (fun b : Bool => Ending.returned (.bool b)) ?_, Below.refl _ _⟩
  all_goals
    go_light
    (try simp only [beq_iff_eq, beq_eq_false_iff_ne, ne_eq] at *)
    first
      | (subst_vars; rfl)
      | (simp [accB, accs, *]; done)
def intR : Rec Int where
  enc x := [.int .i64 x]
  m := 1
  ok _ := True
  d := 0
  len _ := rfl
  one _ u hu := by simp at hu; subst hu; rfl
  pos := by decide
  okd := trivial
theorem rv_ints (w : World) (l : List Int) (n : Nat) (hn : l.length = n) (t : TypeId) : RV intR (w.alloc (.cells (l.map (Value.int .i64)).toArray t)) (w.alloc (.cells (l.map (Value.int .i64)).toArray t)).heap.size (some ⟨w.heap.size, 0, none⟩) n l := by
  refine ⟨hn, fun _ _ => trivial, fun _ => ⟨w.heap.size, 0, rfl, by simp, fun i hi j hj => ?_⟩⟩
  obtain rfl : j = 0 := by have : j < 1 := hj; omega
  have hi2 : i < l.length := by omega
  have e : (0 : Nat) + (i * intR.m + 0) = i := by show 0 + (i * 1 + 0) = i; omega
  rw [e, (Blk.new w _ t).cell i, List.getD_eq_getElem?_getD, List.getElem?_eq_getElem hi2]
  simp [intR, hi2]
theorem RV.int {w : World} {B : Nat} {g off n : Nat} {l : List Int} (h : RV intR w B (some ⟨g, off, none⟩) n l) (k : Nat) (hk : k < n) : w.cell? ⟨g, off + k, none⟩ = some (.int .i64 (l.getD k 0)) := by
  obtain ⟨b, o, e, _, hc⟩ := h.2.2 (by omega)
  cases e
  have := hc k hk 0 (by decide)
  have e2 : off + (k * intR.m + 0) = off + k := by show off + (k * 1 + 0) = off + k; omega
  rw [e2] at this
  exact this
theorem accs_drop (k : Nat) (h : k < 20) : accs.drop k = accs.getD k 0 :: accs.drop (k + 1) := by
  rw [List.drop_eq_getElem_cons (show k < accs.length from h), List.getD_eq_getElem?_getD, List.getElem?_eq_getElem (show k < accs.length from h)]
  rfl
set_option maxHeartbeats 1000000 in
theorem refacc_any (o : Int) (h0 : 0 ≤ o) (h1 : o < 256) : AccSaid 11 o := by
  intro w
  have HR := Lib.hid (rv_ints w accs 20 rfl 3)
  have HB := Lib.hid (below_new w (.cells (accs.map (Value.int .i64)).toArray 3))
  have HD := Lib.hid accs_drop
  generalize hans : accB o = ans
  have HA0 := Lib.hid hans
  clear hans
  go_enter Tryd.func11, Tryd.ntmps11
  go_upto_region 1 with (fail)
  apply wp_region_lit
  refine wpList_buildFlat rfl 49 3 20 _ rfl .i64 accs Tryd.underlying49 (by kernel_rfl) (by kernel_rfl) (by kernel_rfl) (by decide) (by decide) (by kernel_rfl) ?_
  generalize hW : w.alloc (.cells (accs.map (Value.int .i64)).toArray 3) = w1 at HR HB ⊢
  clear hW
  go_wp2
  go_loop [4] (fun i => ∃ k : Nat, k ≤ 20 ∧ i = .int .i64 k ∧ (accs.drop k).contains o = ans) (fun i => 20 - (intOf i).toNat)
  case atStart => exact ⟨0, Nat.zero_le _, rfl, HA0.out⟩
  case round =>
    obtain ⟨k, hk, rfl, hn⟩ := hrel
    by_cases hlt : k < 20
    · have g := HR.out.int k hlt
      rw [HD.out k hlt, List.contains_cons] at hn
      generalize accs.getD k 0 = x at g hn
      rw [Nat.zero_add] at g
      have i0 : (0 : Int) ≤ (k : Int) := by omega
      have i1 : (k : Int) < 20 := by omega
      by_cases hx : x = o
      · subst hx
        have HN1 := Lib.hid hn
        clear hn
        go_wp2
        go_returns
        have h3 := HN1.out
        rw [beq_self_eq_true, Bool.true_or] at h3
        exact ⟨by rw [← h3]; rfl, HB.out⟩
      · have b1 : (x == o) = false := by simpa using hx
        have b2 : (o == x) = false := by simpa using (fun h => hx h.symm)
        rw [b2, Bool.false_or] at hn
        have HN1 := Lib.hid hn
        clear hn b2 hx
        go_wp2
        go_round
        case rel => exact ⟨k + 1, by omega, by go_num, HN1.out⟩
        case measure => simp [intOf]; omega
    · obtain rfl : k = 20 := by omega
      have HN1 := Lib.hid hn
      clear hn
      go_wp2
      go_returns
      have h3 := HN1.out
      have e : (accs.drop 20).contains o = false := rfl
      rw [e] at h3
      exact ⟨by rw [← h3]; rfl, HB.out⟩
end Go.Proofs.YtkagfipehmdmjaaDoor
