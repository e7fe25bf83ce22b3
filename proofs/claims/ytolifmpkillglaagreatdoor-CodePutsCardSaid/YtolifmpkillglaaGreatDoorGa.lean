import Derived.Test.YtolifmpkillglaaGreatDoorFa
import Derived.Deep.Slices
import Derived.Lib.SmallJoins
import Derived.Lib.Bytealg
import Derived.ChangeSame
import Derived.LaidMore
set_option linter.unusedVariables false
set_option maxRecDepth 100000
namespace Go.Proofs.YtolifmpkillglaaGreatDoor
open Go.ChangeShapes Go.WideShapes Go.ChangeAt Go.RowKit Go.Joins Go.Deep
/-! The families of instructions: what the two tables hold. -/
structure Fam where
  first : Int
  skip : Int
  imm : Int
  take : Int
  leave : Int
  ends : Bool
  names : List UInt8
def Fam.zero : Fam := ⟨0, 0, 0, 0, 0, false, []⟩
def Fam.vals (f : Fam) : List Value := [.int .u8 f.first, .int .i64 f.skip, .int .u8 f.imm, .int .i64 f.take, .int .i64 f.leave, .bool f.ends, .string ⟨f.names.toArray⟩]
def Fam.val (f : Fam) : Value := .agg #[.int .u8 f.first, .int .i64 f.skip, .int .u8 f.imm, .int .i64 f.take, .int .i64 f.leave, .bool f.ends, .string ⟨f.names.toArray⟩]
def Fam.data {H : Type} (f : Fam) : DataW H := .agg [.lit (.int .u8 f.first), .lit (.int .i64 f.skip), .lit (.int .u8 f.imm), .lit (.int .i64 f.take), .lit (.int .i64 f.leave), .lit (.bool f.ends), .lit (.string f.names)]
def famOf : DataW Unit → Fam
  | .agg [.lit (.int .u8 a), .lit (.int .i64 b), .lit (.int .u8 c), .lit (.int .i64 d), .lit (.int .i64 e), .lit (.bool g), .lit (.string s)] => ⟨a, b, c, d, e, g, s⟩
  | _ => Fam.zero
def partsOf : DataW Unit → List (DataW Unit)
  | .agg l => l
  | _ => []
def lowF : List Fam := (partsOf Rows.laid_garderobe_ops_lower).map famOf
def upF : List Fam := (partsOf Rows.laid_garderobe_ops_upper).map famOf
theorem lowD : (Rows.laid_garderobe_ops_lower : DataW Unit) = .agg (lowF.map Fam.data) := rfl
theorem upD : (Rows.laid_garderobe_ops_upper : DataW Unit) = .agg (upF.map Fam.data) := rfl
theorem lowL : lowF.length = 19 := rfl
theorem upL : upF.length = 21 := rfl
theorem Fam.data_inj {H : Type} {f g : Fam} (h : (f.data : DataW H) = g.data) : f = g := by
  cases f; cases g
  simp only [Fam.data, DataW.agg.injEq, List.cons.injEq, DataW.lit.injEq, Lit.int.injEq, Lit.bool.injEq, Lit.string.injEq, true_and, and_true] at h
  obtain ⟨rfl, rfl, rfl, rfl, rfl, rfl, rfl⟩ := h
  rfl
def famR : Rec Fam where
  enc := Fam.vals
  m := 7
  ok _ := True
  d := Fam.zero
  len _ := rfl
  one f u hu := by
    simp only [Fam.vals, List.mem_cons, List.not_mem_nil, or_false] at hu
    rcases hu with rfl | rfl | rfl | rfl | rfl | rfl | rfl <;> rfl
  pos := by decide
  okd := trivial
/-- The tables lie in the blocks of their variables, below the next one. -/
def Tab (w : World) : Prop := RV famR w (2 + 1) (some ⟨1, 0, none⟩) 19 lowF ∧ RV famR w (2 + 1) (some ⟨2, 0, none⟩) 21 upF ∧ (2 + 1) ≤ w.heap.size
section
variable {w w' : World} {B : Nat}
theorem Tab.below (h : Tab w) (hb : Below B w w') (hB : (2 + 1) ≤ B) : Tab w' := ⟨h.1.below hb hB, h.2.1.below hb hB, Nat.le_trans h.2.2 hb.size⟩
theorem Tab.below' (h : Tab w) (hb : Below w.heap.size w w') : Tab w' := h.below hb h.2.2
theorem Tab.kp {S : Nat → Prop} (h : Tab w) (hb : Kp S w w') (hS : ∀ k, k < (2 + 1) → S k) : Tab w' := ⟨h.1.kp hb hS, h.2.1.kp hb hS, Nat.le_trans h.2.2 hb.size⟩
theorem Tab.alloc (h : Tab w) (o : Obj) : Tab (w.alloc o) := h.below' ((Below.refl _ _).alloc (Nat.le_refl _) o)
theorem Tab.set (h : Tab w) {p : Addr} (hp : (2 + 1) ≤ p.block) (v : Value) : Tab (w.setCell p v) := h.below (B := (2 + 1)) ((Below.refl _ _).setCell hp v) (Nat.le_refl _)
theorem Tab.drewN (h : Tab w) (n : Nat) : Tab (w.drewN n) := h
def fam (i : Nat) : Fam := if i < 19 then lowF.getD i Fam.zero else upF.getD (i - 19) Fam.zero
theorem Tab.low (h : Tab w) {i : Nat} (hi : i < 19) (j : Nat) (hj : j < 7) : w.cell? ⟨1, i * 7 + j, none⟩ = (fam i).vals[j]? := by
  obtain ⟨b, off, e, _, hc⟩ := h.1.2.2 (by decide)
  cases e
  have := hc i hi j hj
  rw [Nat.zero_add] at this
  rw [fam, if_pos hi]
  exact this
theorem Tab.up (h : Tab w) {i : Nat} (hi : i < 21) (j : Nat) (hj : j < 7) : w.cell? ⟨2, i * 7 + j, none⟩ = (fam (i + 19)).vals[j]? := by
  obtain ⟨b, off, e, _, hc⟩ := h.2.1.2.2 (by decide)
  cases e
  have := hc i hi j hj
  rw [Nat.zero_add] at this
  rw [fam, if_neg (by omega), Nat.add_sub_cancel]
  exact this
end
theorem cellsFam : Tryz.prog.cellsOf 70 = 7 := by kernel_rfl
theorem cellsOp : Tryz.prog.cellsOf 23 = 1 := by kernel_rfl
theorem cellsImm : Tryz.prog.cellsOf 44 = 1 := by kernel_rfl
theorem cellsInt : Tryz.prog.cellsOf 3 = 1 := by kernel_rfl
theorem cellsBool : Tryz.prog.cellsOf 4 = 1 := by kernel_rfl
theorem cellsStr : Tryz.prog.cellsOf 9 = 1 := by kernel_rfl
theorem trod_struct7 {H : Type} {enc : TypeId × Value → H} {P : Program} {w : World} {base : Nat} {spare : Nat → Bool} {held : Bool} {t : TypeId} {f0 f1 f2 f3 f4 f5 f6 : Field} {fuel : Nat} {cs : List Value} {x : DataW H × List MemPlace} (ht : P.underlying t = some (.struct #[f0, f1, f2, f3, f4, f5, f6])) (h : DataW.trod enc P w base spare held fuel t cs = some x) :
    ∃ y0 y1 y2 y3 y4 y5 y6 n, x.1 = .agg [y0.1, y1.1, y2.1, y3.1, y4.1, y5.1, y6.1] ∧ cs.length = P.cellsOf t ∧ DataW.trod enc P w base spare held n f0.type ((cs.drop f0.offset).take (P.cellsOf f0.type)) = some y0 ∧ DataW.trod enc P w base spare held n f1.type ((cs.drop f1.offset).take (P.cellsOf f1.type)) = some y1 ∧ DataW.trod enc P w base spare held n f2.type ((cs.drop f2.offset).take (P.cellsOf f2.type)) = some y2 ∧ DataW.trod enc P w base spare held n f3.type ((cs.drop f3.offset).take (P.cellsOf f3.type)) = some y3 ∧ DataW.trod enc P w base spare held n f4.type ((cs.drop f4.offset).take (P.cellsOf f4.type)) = some y4 ∧ DataW.trod enc P w base spare held n f5.type ((cs.drop f5.offset).take (P.cellsOf f5.type)) = some y5 ∧ DataW.trod enc P w base spare held n f6.type ((cs.drop f6.offset).take (P.cellsOf f6.type)) = some y6 := by
  obtain ⟨xs, n, _, rfl, hl, hlen, hf⟩ := DataW.trod_struct ht h
  match xs, hlen with
  | [y0, y1, y2, y3, y4, y5, y6], _ => exact ⟨y0, y1, y2, y3, y4, y5, y6, n, by simp, hl, by simpa using hf 0 f0 rfl, by simpa using hf 1 f1 rfl, by simpa using hf 2 f2 rfl, by simpa using hf 3 f3 rfl, by simpa using hf 4 f4 rfl, by simpa using hf 5 f5 rfl, by simpa using hf 6 f6 rfl⟩
theorem open_fam {H : Type} {enc : TypeId × Value → H} {w : World} {base : Nat} {spare : Nat → Bool} {held : Bool} {fuel : Nat} {cs : List Value} {x : DataW H × List MemPlace}
    (h : DataW.trod enc Tryz.prog w base spare held fuel 70 cs = some x) : ∃ f : Fam, cs = f.vals ∧ x.1 = f.data := by
  obtain ⟨y0, y1, y2, y3, y4, y5, y6, n, hx, hl, h0, h1, h2, h3, h4, h5, h6⟩ := trod_struct7 Tryz.underlying70 h
  rw [cellsFam] at hl
  match cs, hl with
  | [c0, c1, c2, c3, c4, c5, c6], _ =>
    simp only [cellsOp, List.drop_zero, List.take_succ_cons, List.take_zero] at h0
    simp only [cellsInt, List.drop_zero, List.drop_succ_cons, List.take_succ_cons, List.take_zero] at h1
    simp only [cellsImm, List.drop_zero, List.drop_succ_cons, List.take_succ_cons, List.take_zero] at h2
    simp only [cellsInt, List.drop_zero, List.drop_succ_cons, List.take_succ_cons, List.take_zero] at h3
    simp only [cellsInt, List.drop_zero, List.drop_succ_cons, List.take_succ_cons, List.take_zero] at h4
    simp only [cellsBool, List.drop_zero, List.drop_succ_cons, List.take_succ_cons, List.take_zero] at h5
    simp only [cellsStr, List.drop_zero, List.drop_succ_cons, List.take_succ_cons, List.take_zero] at h6
    obtain ⟨a0, e0, rfl, _⟩ := DataW.trod_int Tryz.underlying23 h0
    obtain ⟨a1, e1, rfl, _⟩ := DataW.trod_int Tryz.underlying3 h1
    obtain ⟨a2, e2, rfl, _⟩ := DataW.trod_int Tryz.underlying44 h2
    obtain ⟨a3, e3, rfl, _⟩ := DataW.trod_int Tryz.underlying3 h3
    obtain ⟨a4, e4, rfl, _⟩ := DataW.trod_int Tryz.underlying3 h4
    obtain ⟨a5, e5, rfl⟩ := DataW.trod_bool Tryz.underlying4 h5
    obtain ⟨a6, e6, rfl, _⟩ := DataW.trod_string Tryz.underlying9 h6
    simp only [List.cons.injEq, and_true] at e0 e1 e2 e3 e4 e5 e6
    subst e0 e1 e2 e3 e4 e5 e6
    exact ⟨⟨a0, a1, a2, a3, a4, a5, a6.data.toList⟩, rfl, hx⟩
theorem open_fams {w : World} {fuel n : Nat} {t : TypeId} {cs : List Value} {l : List Fam} {p : List MemPlace} (ht : Tryz.prog.underlying t = some (.array n 70)) (hl : l.length = n)
    (h : DataW.trod (fun _ => ()) Tryz.prog w 0 (fun _ => true) false fuel t cs = some (.agg (l.map Fam.data), p)) (i : Nat) (hi : i < n) (j : Nat) (hj : j < 7) : cs[i * 7 + j]? = ((l.getD i Fam.zero).vals)[j]? := by
  obtain ⟨xs, m, _, hx, _, hn, hel⟩ := DataW.trod_array ht h
  have hxi : i < xs.length := by omega
  have h1 := hel i hi
  rw [List.getElem?_eq_getElem hxi, cellsFam] at h1
  obtain ⟨f, hcs, hd⟩ := open_fam h1
  have hx1 : l.map Fam.data = xs.map (·.1) := by simpa using (Prod.mk.inj hx).1
  have hf : (l.getD i Fam.zero).data = (f.data : DataW Unit) := by
    have h2 : (l.map Fam.data)[i]? = (xs.map (·.1))[i]? := by rw [hx1]
    rw [List.getElem?_map, List.getElem?_map, List.getElem?_eq_getElem hxi, List.getElem?_eq_getElem (by omega : i < l.length)] at h2
    simp only [Option.map_some, Option.some.injEq] at h2
    rw [List.getD_eq_getElem?_getD, List.getElem?_eq_getElem (by omega : i < l.length), ← hd, ← h2]
    rfl
  rw [Fam.data_inj hf, ← hcs, List.getElem?_take, if_pos hj, List.getElem?_drop]
end Go.Proofs.YtolifmpkillglaaGreatDoor
