import Derived.Test.YtihdfogcnghfaaaFk
import Derived.Deep.Slices
import Derived.Lib.SmallJoins
import Derived.ChangeSame
set_option linter.unusedVariables false
namespace Go.Proofs.Ytihdfogcnghfaaa
open Go.ChangeShapes Go.WideShapes Go.ChangeAt Go.RowKit Go.Joins Go.Deep
/-! Arguments: rows of records; types; signatures. -/
theorem list_of {α : Type} (d : α) (p : Nat → α → Prop) : ∀ n, (∀ i, i < n → ∃ a, p i a) → ∃ l : List α, l.length = n ∧ ∀ i, i < n → p i (l.getD i d)
  | 0, _ => ⟨[], rfl, fun i hi => absurd hi (by omega)⟩
  | n + 1, h => by
    obtain ⟨l, hl, hp⟩ := list_of d p n (fun i hi => h i (by omega))
    obtain ⟨a, ha⟩ := h n (by omega)
    refine ⟨l ++ [a], by rw [List.length_append, hl]; rfl, fun i hi => ?_⟩
    by_cases hin : i < n
    · have := hp i hin
      rw [List.getD_eq_getElem?_getD] at this ⊢
      rwa [List.getElem?_append_left (by omega)]
    · obtain rfl : i = n := by omega
      rw [List.getD_eq_getElem?_getD, List.getElem?_append_right (by omega), hl, Nat.sub_self]
      exact ha
section
variable {H : Type} {enc : TypeId × Value → H} {P : Program} {w : World} {base : Nat} {held : Bool} {α : Type}
theorem open_rows (R : Rec α) {t e : TypeId} {fuel : Nat} {cs : List Value} {x : DataW H × List MemPlace} (ht : P.underlying t = some (.slice e)) (hC : P.cellsOf e = R.m)
    (hel : ∀ n cs x, DataW.trod enc P w base (fun _ => true) held n e cs = some x → ∃ a, cs = R.enc a ∧ R.ok a)
    (h : DataW.trod enc P w base (fun _ => true) held fuel t cs = some x) :
    ∃ A n c l, cs = [.slice A n c] ∧ n ≤ c ∧ RV R w w.heap.size A n l ∧ Dat x.1 n c := by
  rcases open_slice ht h with ⟨rfl, rfl⟩ | ⟨a, n, c, m, k, D, Pl, rfl, _, hl, _, hm, rfl, hi⟩
  · exact ⟨none, 0, 0, [], rfl, Nat.le_refl _, RV.none_, .inl ⟨rfl, rfl⟩⟩
  · simp only [if_true] at hm
    subst hm
    obtain ⟨l, hlen, hl2⟩ := list_of R.d (fun i (z : α) => R.ok z ∧ ∀ j, j < R.m → w.cell? ((a.add (i * R.m)).add j) = (R.enc z)[j]?) n (fun i hin => by
      obtain ⟨cs', h1, h2⟩ := hi i (by omega)
      obtain ⟨z, rfl, hz⟩ := hel _ _ _ h2
      rw [hC] at h1
      obtain ⟨_, _, hc⟩ := World.cells?_some h1
      exact ⟨z, hz, hc⟩)
    refine ⟨some a, n, m, l, rfl, hl, ⟨hlen, ?_, fun hn => ?_⟩, .inr ⟨_, _, rfl, by simp; omega⟩⟩
    · intro z hz
      obtain ⟨i, hi1, rfl⟩ := List.getElem_of_mem hz
      have := (hl2 i (by omega)).1
      rwa [List.getD_eq_getElem?_getD, List.getElem?_eq_getElem hi1] at this
    · obtain ⟨b, off, spot⟩ := a
      have hp := R.pos
      have h0 := (hl2 0 hn).2 0 hp
      have hlt : 0 < (R.enc (l.getD 0 R.d)).length := by rw [R.len]; exact hp
      rw [List.getElem?_eq_getElem hlt] at h0
      have hspot : spot = none := by simpa [Addr.add] using World.cell?_spot h0
      subst hspot
      refine ⟨b, off, rfl, ?_, fun i hin j hj => ?_⟩
      · exact World.block_lt_of_cell? w ⟨b, off, none⟩ (by simpa [Addr.add] using h0)
      · have := (hl2 i hin).2 j hj
        rw [← this, Addr.add_lit, Addr.add_lit]
        congr 2
        omega
end
theorem u8_wf {a : Int} (h : (Lit.int .u8 a).wf = true) : 0 ≤ a ∧ a < 256 := by
  have : 0 ≤ a ∧ a ≤ 255 := by simpa [Lit.wf, IntKind.min, IntKind.max, IntKind.signed, IntKind.bits] using h
  omega
theorem u16_wf {a : Int} (h : (Lit.int .u16 a).wf = true) : 0 ≤ a ∧ a < 65536 := by
  have : 0 ≤ a ∧ a ≤ 65535 := by simpa [Lit.wf, IntKind.min, IntKind.max, IntKind.signed, IntKind.bits] using h
  omega
theorem cellsTy : Try.prog.cellsOf 25 = 2 := by kernel_rfl
theorem bytesTy : Try.prog.bytesOf 25 = 4 := by kernel_rfl
theorem cellsSig : Try.prog.cellsOf 28 = 3 := by kernel_rfl
theorem cellsKind : Try.prog.cellsOf 22 = 1 := by kernel_rfl
theorem cellsU16 : Try.prog.cellsOf 23 = 1 := by kernel_rfl
theorem cellsTys : Try.prog.cellsOf 26 = 1 := by kernel_rfl
section
variable {H : Type} {enc : TypeId × Value → H} {w : World} {base : Nat} {spare : Nat → Bool} {held : Bool}
theorem open_ty {fuel : Nat} {cs : List Value} {x : DataW H × List MemPlace} (h : DataW.trod enc Try.prog w base spare held fuel 25 cs = some x) :
    ∃ k c, cs = [.int .u8 k, .int .u16 c] ∧ tyB k c ∧ x.1 = .agg [.lit (.int .u8 k), .lit (.int .u16 c)] := by
  obtain ⟨y0, y1, n, rfl, hl, h0, h1⟩ := trod_struct2 Try.underlying25 h
  rw [cellsTy] at hl
  match cs, hl with
  | [c0, c1], _ =>
    simp only [cellsKind, cellsU16, List.drop_zero, List.drop_succ_cons, List.take_succ_cons, List.take_zero] at h0 h1
    obtain ⟨k, e0, rfl, w0⟩ := DataW.trod_int Try.underlying22 h0
    obtain ⟨c, e1, rfl, w1⟩ := DataW.trod_int Try.underlying23 h1
    simp only [List.cons.injEq, and_true] at e0 e1
    subst e0
    subst e1
    exact ⟨k, c, rfl, ⟨u8_wf w0, u16_wf w1⟩, rfl⟩
theorem open_sig {fuel : Nat} {cs : List Value} {x : DataW H × List MemPlace} (h : DataW.trod enc Try.prog w base (fun _ => true) held fuel 28 cs = some x) :
    ∃ A n c l k cl y z, cs = [.slice A n c, .int .u8 k, .int .u16 cl] ∧ n ≤ c ∧ RV tyR w w.heap.size A n l ∧ tyB k cl ∧ x.1 = .agg [y, z] ∧ Dat y n c := by
  obtain ⟨y0, y1, n, rfl, hl, h0, h1⟩ := trod_struct2 Try.underlying28 h
  rw [cellsSig] at hl
  match cs, hl with
  | [c0, c1, c2], _ =>
    simp only [cellsTys, cellsTy, List.drop_zero, List.drop_succ_cons, List.take_succ_cons, List.take_zero] at h0 h1
    obtain ⟨k, cl, e1, hb, _⟩ := open_ty h1
    simp only [List.cons.injEq, and_true] at e1
    obtain ⟨rfl, rfl⟩ := e1
    obtain ⟨A, m, c, l, e0, hmc, hr, hD⟩ := open_rows tyR Try.underlying26 cellsTy (fun n cs x hx => by
      obtain ⟨k, c, rfl, hb, _⟩ := open_ty hx
      exact ⟨(k, c), rfl, hb⟩) h0
    simp only [List.cons.injEq, and_true] at e0
    subst e0
    exact ⟨A, m, c, l, k, cl, _, _, rfl, hmc, hr, hb, rfl, hD⟩
end
theorem arg_ty {H : Type} {enc : TypeId × Value → H} {W : World} {base : Nat} {v : Value} {d : DataW H} {p : List MemPlace}
    (hval : Value.okWide Try.prog W .any base 25 v) (h0 : DataW.Trod enc Try.prog W 0 (fun _ => true) true 25 v d p) :
    ∃ k c, v = .agg #[.int .u8 k, .int .u16 c] ∧ tyB k c := by
  obtain ⟨cs, rfl, _⟩ := okWide_struct Try.underlying25 hval
  obtain ⟨fuel, hf⟩ := h0
  obtain ⟨k, c, e, hb, _⟩ := open_ty hf
  refine ⟨k, c, ?_, hb⟩
  have : cs = #[.int .u8 k, .int .u16 c] := by apply Array.ext'; simpa [Value.cells] using e
  rw [this]
def DatS {H : Type} (d : DataW H) (n c : Nat) : Prop := ∃ y z, d = .agg [y, z] ∧ Dat y n c
theorem arg_sig {H : Type} {enc : TypeId × Value → H} {W : World} {base : Nat} {v : Value} {d : DataW H} {p : List MemPlace}
    (hval : Value.okWide Try.prog W .any base 28 v) (h0 : DataW.Trod enc Try.prog W 0 (fun _ => true) true 28 v d p) :
    ∃ A n c l k cl, v = .agg #[.slice A n c, .int .u8 k, .int .u16 cl] ∧ n ≤ c ∧ RV tyR W W.heap.size A n l ∧ tyB k cl ∧ DatS d n c := by
  obtain ⟨cs, rfl, _⟩ := okWide_struct Try.underlying28 hval
  obtain ⟨fuel, hf⟩ := h0
  obtain ⟨A, n, c, l, k, cl, y, z, e, hn, hr, hb, hx, hD⟩ := open_sig hf
  refine ⟨A, n, c, l, k, cl, ?_, hn, hr, hb, y, z, hx, hD⟩
  have : cs = #[.slice A n c, .int .u8 k, .int .u16 cl] := by apply Array.ext'; simpa [Value.cells] using e
  rw [this]
theorem fitsSig {H : Type} {ts : List TypeId} {ds : List (DataW H)} (h : (DataW.weightsEach Try.prog ts ds).all (· ≤ reachBytes) = true) (j : Nat) {d : DataW H} {n c : Nat} (ht : ts[j]? = some 28) (hd : ds[j]? = some d) (hD : DatS d n c) (hn : n ≤ c) : n * 4 ≤ 140737488351232 := by
  obtain ⟨y, z, rfl, hD⟩ := hD
  rcases hD with ⟨rfl, rfl⟩ | ⟨e, s, rfl, hl⟩
  · omega
  · have h1 := List.all_eq_true.1 h _ (DataW.weights_mem_each ht hd ((e.length + s.length) * Try.prog.bytesOf 25) (by simp [DataW.weights, DataW.weightsEach, Try.underlying28, Try.underlying26]))
    rw [bytesTy, hl] at h1
    have h2 : c * 4 ≤ reachBytes := by simpa using h1
    unfold reachBytes at h2
    omega
theorem fitsB {H : Type} {ts : List TypeId} {ds : List (DataW H)} (h : (DataW.weightsEach Try.prog ts ds).all (· ≤ reachBytes) = true) (j : Nat) {d : DataW H} {n c : Nat} (ht : ts[j]? = some 29) (hd : ds[j]? = some d) (hD : Dat d n c) (hn : n ≤ c) : n ≤ 140737488351232 := by
  rcases hD with ⟨rfl, rfl⟩ | ⟨e, s, rfl, hl⟩
  · omega
  · have := sized_slice h ht hd Try.underlying29
    rw [bytesU, hl] at this
    unfold reachBytes at this
    omega
end Go.Proofs.Ytihdfogcnghfaaa
