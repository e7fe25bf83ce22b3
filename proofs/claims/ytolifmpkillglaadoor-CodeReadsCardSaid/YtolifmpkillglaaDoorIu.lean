import Derived.Test.YtolifmpkillglaaDoorIr
import Derived.Test.YtolifmpkillglaaDoorIt
import Derived.Test.YtolifmpkillglaaDoorIp

set_option linter.unusedVariables false
set_option maxRecDepth 100000
namespace Go.Proofs.YtolifmpkillglaaDoor
open Go.ChangeShapes Go.WideShapes Go.ChangeAt Go.RowKit
/-! Arguments that are bytes; parts of rows of instructions. -/
theorem laidOut : laidOutB Tryd.prog = true := by kernel_rfl
theorem cellsU : Tryd.prog.cellsOf 5 = 1 := by kernel_rfl
theorem bytesU : Tryd.prog.bytesOf 5 = 1 := by kernel_rfl
def Dat {H : Type} (d : DataW H) (n c : Nat) : Prop := (d = .nil ∧ n = 0) ∨ ∃ e s, d = .slice e s ∧ e.length + s.length = c
theorem arg_bytes {H : Type} {enc : TypeId × Value → H} {W : World} {base : Nat} {v : Value} {d : DataW H} {p : List MemPlace}
    (hval : Value.okWide Tryd.prog W .any base 22 v) (h0 : DataW.Trod enc Tryd.prog W 0 (fun _ => true) true 22 v d p) :
    ∃ A n c l, v = .slice A n c ∧ n ≤ c ∧ Rd W W.heap.size A n l ∧ Dat d n c := by
  obtain ⟨A, n, c, rfl⟩ := okWide_slice Tryd.underlying22 hval
  obtain ⟨fuel, hf⟩ := h0
  rcases open_ints Tryd.underlying22 Tryd.underlying5 cellsU hf with ⟨hcs, hx⟩ | ⟨a, n', c', zs, hcs, _, hl, hm, hz, hx, hcell, hwz⟩
  · simp [Value.cells] at hcs
    obtain ⟨rfl, rfl, rfl⟩ := hcs
    simp only [Prod.mk.injEq] at hx
    obtain ⟨rfl, rfl⟩ := hx
    exact ⟨none, 0, 0, [], rfl, Nat.le_refl _, Rd.none_, .inl ⟨rfl, rfl⟩⟩
  · simp [Value.cells] at hcs
    obtain ⟨rfl, rfl, rfl⟩ := hcs
    simp only [Prod.mk.injEq] at hx
    obtain ⟨rfl, rfl⟩ := hx
    simp only [if_true] at hz
    have hrz : rng zs := by
      intro x hx
      have := hwz x hx
      simp [Lit.wf, IntKind.min, IntKind.max, IntKind.signed, IntKind.bits] at this
      omega
    refine ⟨some a, n, c, zs.take n, rfl, hl, ⟨by rw [List.length_take]; omega, rng_take hrz n, fun hn => ?_⟩, .inr ⟨_, _, rfl, by simp [lits]; omega⟩⟩
    obtain ⟨b, off, spot⟩ := a
    have hspot : spot = none := by simpa [Addr.add] using World.cell?_spot (hcell 0 (by omega))
    subst hspot
    refine ⟨b, off, rfl, ?_, fun i hi => ?_⟩
    · have h1 := hcell 0 (by omega)
      exact World.block_lt_of_cell? W ⟨b, off, none⟩ (by simpa [Addr.add] using h1)
    · have := hcell i (by omega)
      rw [Addr.add_lit] at this
      rw [this]
      congr 2
      rw [List.getD_eq_getElem?_getD, List.getD_eq_getElem?_getD, List.getElem?_take, if_pos hi]
theorem fits {H : Type} {ts : List TypeId} {ds : List (DataW H)} (h : (DataW.weightsEach Tryd.prog ts ds).all (· ≤ reachBytes) = true) (j : Nat) {d : DataW H} {n c : Nat} (ht : ts[j]? = some 22) (hd : ds[j]? = some d) (hD : Dat d n c) (hn : n ≤ c) : n ≤ 140737488355328 := by
  rcases hD with ⟨rfl, rfl⟩ | ⟨e, s, rfl, hl⟩
  · omega
  · have := sized_slice h ht hd Tryd.underlying22
    rw [bytesU, hl] at this
    unfold reachBytes at this
    omega
theorem getD_take (l : List Ins) (k i : Nat) (h : i < k) : (l.take k).getD i Ins.zero = l.getD i Ins.zero := by
  rw [List.getD_eq_getElem?_getD, List.getD_eq_getElem?_getD, List.getElem?_take, if_pos h]
theorem getDr_take (l : List RI) (k i : Nat) (h : i < k) : (l.take k).getD i RI.zero = l.getD i RI.zero := by
  rw [List.getD_eq_getElem?_getD, List.getD_eq_getElem?_getD, List.getElem?_take, if_pos h]
theorem IV.take {w : World} {B n k : Nat} {A : Option Addr} {rs : List RI} {l : List Ins} (h : IV w B A n rs l) (hk : k ≤ n) : IV w B A k (rs.take k) (l.take k) := by
  refine ⟨⟨by rw [List.length_take, h.rv.len]; omega, allok_take h.rv.rg k, fun hp => ?_⟩, by rw [List.length_take, h.len]; omega, fun i hi => ?_⟩
  · obtain ⟨b, o, e, hb, hc⟩ := h.rv.2.2 (by omega)
    refine ⟨b, o, e, hb, fun i hi j hj => ?_⟩
    have e2 : (rs.take k).getD i riR.d = rs.getD i riR.d := getDr_take rs k i hi
    rw [e2]
    exact hc i (by omega) j hj
  · rw [getD_take l k i hi, getDr_take rs k i hi]
    exact h.each i (by omega)
theorem addr_0 (A : Option Addr) (k s : Nat) : sliced A 0 k k s = .slice A k k := by
  unfold sliced
  have e : A.map (·.add (0 * s)) = A := by
    cases A with
    | none => rfl
    | some a => simp [Addr.add]
  rw [e]
  simp
theorem run_cutI (w : World) (A : Option Addr) (n c k : Nat) (h : k ≤ c) : (Instr.slice 23 (.slice A n c) none (some (.int .i64 (k : Int))) (some (.int .i64 (k : Int)))).run Tryd.prog w = .ok (.slice A k k) w := by
  have ht := Tryd.underlying23
  have he : Tryd.prog.elem 23 = 40 := by simp [Program.elem, ht]
  have ht' : Tryd.prog.underlying 23 = some (.slice (Tryd.prog.elem 23)) := by rw [he]; exact ht
  obtain ⟨i0, hi, hs⟩ : ∃ i, Tryd.prog.info? 40 = some i ∧ i.size = 10 := by
    have := inst_sz
    cases hq : Tryd.prog.info? 40 with
    | none => rw [hq] at this; cases this
    | some i => rw [hq] at this; exact ⟨i, rfl, by simpa using this⟩
  rw [run_slice_hm w 23 A n c ht' .i64 .i64 (k : Int) (k : Int) (by omega) (by omega) (by omega), he]
  simp only [sizeOf, typeInfo, Sem.run_bind, Sem.run_pure, Int.toNat_natCast]
  simp [hi, addr_0]
theorem run_cutB (w : World) (A : Option Addr) (n c k : Nat) (h : k ≤ c) : (Instr.slice 22 (.slice A n c) none (some (.int .i64 (k : Int))) (some (.int .i64 (k : Int)))).run Tryd.prog w = .ok (.slice A k k) w := by
  have ht := Tryd.underlying22
  obtain ⟨i0, hi, hz0, hz1, hz2⟩ := info_parts u8_info
  have he : Tryd.prog.elem 22 = 5 := by simp [Program.elem, ht]
  have ht' : Tryd.prog.underlying 22 = some (.slice (Tryd.prog.elem 22)) := by rw [he]; exact ht
  rw [run_slice_hm w 22 A n c ht' .i64 .i64 (k : Int) (k : Int) (by omega) (by omega) (by omega), he]
  simp [sizeOf, typeInfo, hi, addr_0]
theorem u16_nat {a : Int} (h : (Lit.int .u16 a).wf = true) : ∃ n : Nat, a = n ∧ n < 65536 := by
  have : 0 ≤ a ∧ a ≤ 65535 := by simpa [Lit.wf, IntKind.min, IntKind.max, IntKind.signed, IntKind.bits] using h
  exact ⟨a.toNat, by omega, by omega⟩
theorem i64_bd {a : Int} (h : (Lit.int .i64 a).wf = true) : -9223372036854775808 ≤ a ∧ a < 9223372036854775808 := by
  have : -9223372036854775808 ≤ a ∧ a ≤ 9223372036854775807 := by simpa [Lit.wf, IntKind.min, IntKind.max, IntKind.signed, IntKind.bits] using h
  omega
end Go.Proofs.YtolifmpkillglaaDoor
