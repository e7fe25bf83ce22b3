import Derived.Test.YtkdnnoioejfpgaaKg
import Derived.Test.YtkdnnoioejfpgaaDn
import Derived.Deep.Slices
import Derived.Lib.SmallJoins
import Derived.ChangeSame
set_option linter.unusedVariables false
set_option maxRecDepth 100000
namespace Go.Proofs.Ytkdnnoioejfpgaa
open Go.ChangeShapes Go.WideShapes Go.ChangeAt Go.RowKit Go.Joins Go.Deep
/-! Arguments: rows of entries. -/
theorem list_of {α : Type} (d : α) (p : Nat → α → Prop) : ∀ n, (∀ i, i < n → ∃ a, p i a) → ∃ l : List α, l.length = n ∧ ∀ i, i < n → p i (l.getD i d)
  | 0, _ => ⟨[], rfl, fun i hi => absurd hi (by omega)⟩
  | n + 1, h => by
    obtain ⟨l, hl, hp⟩ := list_of d p n (fun i hi => h i (by omega))
    obtain ⟨a, ha⟩ := h n (by omega)
    refine ⟨l ++ [a], by rw [List.length_append, hl]; rfl, fun i hi => ?_⟩
    by_cases hin : i < n
    · have := hp i hin
      rw [List.getD_eq_getElem?_getD] at this ⊢
      rwa [List.getElem?_append_left (by omega)]
    · obtain rfl : i = n := by omega
      rw [List.getD_eq_getElem?_getD, List.getElem?_append_right (by omega), hl, Nat.sub_self]
      exact ha
section
variable {H : Type} {enc : TypeId × Value → H} {P : Program} {w : World} {base : Nat} {held : Bool} {α : Type}
theorem open_rows (R : Rec α) {t e : TypeId} {fuel : Nat} {cs : List Value} {x : DataW H × List MemPlace} (ht : P.underlying t = some (.slice e)) (hC : P.cellsOf e = R.m)
    (hel : ∀ n cs x, DataW.trod enc P w base (fun _ => true) held n e cs = some x → ∃ a, cs = R.enc a ∧ R.ok a)
    (h : DataW.trod enc P w base (fun _ => true) held fuel t cs = some x) :
    ∃ A n c l, cs = [.slice A n c] ∧ n ≤ c ∧ RV R w w.heap.size A n l ∧ Dat x.1 n c := by
  rcases open_slice ht h with ⟨rfl, rfl⟩ | ⟨a, n, c, m, k, D, Pl, rfl, _, hl, _, hm, rfl, hi⟩
  · exact ⟨none, 0, 0, [], rfl, Nat.le_refl _, RV.none_, .inl ⟨rfl, rfl⟩⟩
  · simp only [if_true] at hm
    subst hm
    obtain ⟨l, hlen, hl2⟩ := list_of R.d (fun i (z : α) => R.ok z ∧ ∀ j, j < R.m → w.cell? ((a.add (i * R.m)).add j) = (R.enc z)[j]?) n (fun i hin => by
      obtain ⟨cs', h1, h2⟩ := hi i (by omega)
      obtain ⟨z, rfl, hz⟩ := hel _ _ _ h2
      rw [hC] at h1
      obtain ⟨_, _, hc⟩ := World.cells?_some h1
      exact ⟨z, hz, hc⟩)
    refine ⟨some a, n, m, l, rfl, hl, ⟨hlen, ?_, fun hn => ?_⟩, .inr ⟨_, _, rfl, by simp; omega⟩⟩
    · intro z hz
      obtain ⟨i, hi1, rfl⟩ := List.getElem_of_mem hz
      have := (hl2 i (by omega)).1
      rwa [List.getD_eq_getElem?_getD, List.getElem?_eq_getElem hi1] at this
    · obtain ⟨b, off, spot⟩ := a
      have hp := R.pos
      have h0 := (hl2 0 hn).2 0 hp
      have hlt : 0 < (R.enc (l.getD 0 R.d)).length := by rw [R.len]; exact hp
      rw [List.getElem?_eq_getElem hlt] at h0
      have hspot : spot = none := by simpa [Addr.add] using World.cell?_spot h0
      subst hspot
      refine ⟨b, off, rfl, ?_, fun i hin j hj => ?_⟩
      · exact World.block_lt_of_cell? w ⟨b, off, none⟩ (by simpa [Addr.add] using h0)
      · have := (hl2 i hin).2 j hj
        rw [← this, Addr.add_lit, Addr.add_lit]
        congr 2
        omega
end
theorem u8_wf {a : Int} (h : (Lit.int .u8 a).wf = true) : 0 ≤ a ∧ a < 256 := by
  have : 0 ≤ a ∧ a ≤ 255 := by simpa [Lit.wf, IntKind.min, IntKind.max, IntKind.signed, IntKind.bits] using h
  omega
theorem u16_wf {a : Int} (h : (Lit.int .u16 a).wf = true) : 0 ≤ a ∧ a < 65536 := by
  have : 0 ≤ a ∧ a ≤ 65535 := by simpa [Lit.wf, IntKind.min, IntKind.max, IntKind.signed, IntKind.bits] using h
  omega
theorem trod_struct7 {H : Type} {enc : TypeId × Value → H} {P : Program} {w : World} {base : Nat} {spare : Nat → Bool} {held : Bool} {t : TypeId} {f0 f1 f2 f3 f4 f5 f6 : Field} {fuel : Nat} {cs : List Value} {x : DataW H × List MemPlace} (ht : P.underlying t = some (.struct #[f0, f1, f2, f3, f4, f5, f6])) (h : DataW.trod enc P w base spare held fuel t cs = some x) :
    ∃ y0 y1 y2 y3 y4 y5 y6 n, x.1 = .agg [y0.1, y1.1, y2.1, y3.1, y4.1, y5.1, y6.1] ∧ cs.length = P.cellsOf t ∧ DataW.trod enc P w base spare held n f0.type ((cs.drop f0.offset).take (P.cellsOf f0.type)) = some y0 ∧ DataW.trod enc P w base spare held n f1.type ((cs.drop f1.offset).take (P.cellsOf f1.type)) = some y1 ∧ DataW.trod enc P w base spare held n f2.type ((cs.drop f2.offset).take (P.cellsOf f2.type)) = some y2 ∧ DataW.trod enc P w base spare held n f3.type ((cs.drop f3.offset).take (P.cellsOf f3.type)) = some y3 ∧ DataW.trod enc P w base spare held n f4.type ((cs.drop f4.offset).take (P.cellsOf f4.type)) = some y4 ∧ DataW.trod enc P w base spare held n f5.type ((cs.drop f5.offset).take (P.cellsOf f5.type)) = some y5 ∧ DataW.trod enc P w base spare held n f6.type ((cs.drop f6.offset).take (P.cellsOf f6.type)) = some y6 := by
  obtain ⟨xs, n, _, rfl, hl, hlen, hf⟩ := DataW.trod_struct ht h
  match xs, hlen with
  | [y0, y1, y2, y3, y4, y5, y6], _ => exact ⟨y0, y1, y2, y3, y4, y5, y6, n, by simp, hl, by simpa using hf 0 f0 rfl, by simpa using hf 1 f1 rfl, by simpa using hf 2 f2 rfl, by simpa using hf 3 f3 rfl, by simpa using hf 4 f4 rfl, by simpa using hf 5 f5 rfl, by simpa using hf 6 f6 rfl⟩
theorem cellsEn : Try.prog.cellsOf 45 = 7 := by kernel_rfl
theorem bytesEn : Try.prog.bytesOf 45 = 10 := by kernel_rfl
theorem cellsPk : Try.prog.cellsOf 43 = 1 := by kernel_rfl
theorem cellsU16 : Try.prog.cellsOf 34 = 1 := by kernel_rfl
theorem cellsBool : Try.prog.cellsOf 4 = 1 := by kernel_rfl
theorem open_en {H : Type} {enc : TypeId × Value → H} {w : World} {base : Nat} {spare : Nat → Bool} {held : Bool} {fuel : Nat} {cs : List Value} {x : DataW H × List MemPlace}
    (h : DataW.trod enc Try.prog w base spare held fuel 45 cs = some x) : ∃ z : En, cs = enR.enc z ∧ enR.ok z := by
  obtain ⟨y0, y1, y2, y3, y4, y5, y6, n, hx, hl, h0, h1, h2, h3, h4, h5, h6⟩ := trod_struct7 Try.underlying45 h
  rw [cellsEn] at hl
  match cs, hl with
  | [c0, c1, c2, c3, c4, c5, c6], _ =>
    simp only [cellsPk, List.drop_zero, List.take_succ_cons, List.take_zero] at h0
    simp only [cellsU16, List.drop_zero, List.drop_succ_cons, List.take_succ_cons, List.take_zero] at h1
    simp only [cellsU, List.drop_zero, List.drop_succ_cons, List.take_succ_cons, List.take_zero] at h2
    simp only [cellsBool, List.drop_zero, List.drop_succ_cons, List.take_succ_cons, List.take_zero] at h3
    simp only [cellsU16, List.drop_zero, List.drop_succ_cons, List.take_succ_cons, List.take_zero] at h4
    simp only [cellsU, List.drop_zero, List.drop_succ_cons, List.take_succ_cons, List.take_zero] at h5
    simp only [cellsU, List.drop_zero, List.drop_succ_cons, List.take_succ_cons, List.take_zero] at h6
    obtain ⟨a0, e0, rfl, w0⟩ := DataW.trod_int Try.underlying43 h0
    obtain ⟨a1, e1, rfl, w1⟩ := DataW.trod_int Try.underlying34 h1
    obtain ⟨a2, e2, rfl, w2⟩ := DataW.trod_int Try.underlying5 h2
    obtain ⟨a3, e3, rfl⟩ := DataW.trod_bool Try.underlying4 h3
    obtain ⟨a4, e4, rfl, w4⟩ := DataW.trod_int Try.underlying34 h4
    obtain ⟨a5, e5, rfl, w5⟩ := DataW.trod_int Try.underlying5 h5
    obtain ⟨a6, e6, rfl, w6⟩ := DataW.trod_int Try.underlying5 h6
    simp only [List.cons.injEq, and_true] at e0 e1 e2 e3 e4 e5 e6
    subst e0 e1 e2 e3 e4 e5 e6
    exact ⟨⟨a0, a1, a2, a3, a4, a5, a6⟩, rfl, u8_wf w0, u16_wf w1, u8_wf w2, u16_wf w4, u8_wf w5, u8_wf w6⟩
theorem arg_ents {H : Type} {enc : TypeId × Value → H} {W : World} {base : Nat} {v : Value} {d : DataW H} {p : List MemPlace}
    (hval : Value.okWide Try.prog W .any base 22 v) (h0 : DataW.Trod enc Try.prog W 0 (fun _ => true) true 22 v d p) :
    ∃ A n c l, v = .slice A n c ∧ n ≤ c ∧ RV enR W W.heap.size A n l ∧ Dat d n c := by
  obtain ⟨A, n, c, rfl⟩ := okWide_slice Try.underlying22 hval
  obtain ⟨fuel, hf⟩ := h0
  obtain ⟨A', n', c', l, e, hn, hr, hD⟩ := open_rows enR Try.underlying22 cellsEn (fun n cs x hx => open_en hx) hf
  simp [Value.cells] at e
  obtain ⟨rfl, rfl, rfl⟩ := e
  exact ⟨A, n, c, l, rfl, hn, hr, hD⟩
theorem fitsEn {H : Type} {ts : List TypeId} {ds : List (DataW H)} (h : (DataW.weightsEach Try.prog ts ds).all (· ≤ reachBytes) = true) (j : Nat) {d : DataW H} {n c : Nat} (ht : ts[j]? = some 22) (hd : ds[j]? = some d) (hD : Dat d n c) (hn : n ≤ c) : n * 10 ≤ 140737488351232 := by
  rcases hD with ⟨rfl, rfl⟩ | ⟨e, s, rfl, hl⟩
  · omega
  · have := sized_slice h ht hd Try.underlying22
    rw [bytesEn, hl] at this
    unfold reachBytes at this
    omega
theorem fitsB {H : Type} {ts : List TypeId} {ds : List (DataW H)} (h : (DataW.weightsEach Try.prog ts ds).all (· ≤ reachBytes) = true) (j : Nat) {d : DataW H} {n c : Nat} (ht : ts[j]? = some 23) (hd : ds[j]? = some d) (hD : Dat d n c) (hn : n ≤ c) : n ≤ 140737488351232 := by
  rcases hD with ⟨rfl, rfl⟩ | ⟨e, s, rfl, hl⟩
  · omega
  · have := sized_slice h ht hd Try.underlying23
    rw [bytesU, hl] at this
    unfold reachBytes at this
    omega
end Go.Proofs.Ytkdnnoioejfpgaa
