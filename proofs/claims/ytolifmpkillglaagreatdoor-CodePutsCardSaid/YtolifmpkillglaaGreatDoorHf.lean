import Derived.Test.YtolifmpkillglaaGreatDoorHe
import Derived.Deep.RegionLaw
set_option linter.unusedVariables false
set_option maxRecDepth 100000
namespace Go.Proofs.YtolifmpkillglaaGreatDoor
open Go.RowKit
/-! What stands behind: the tables. -/
section
variable {α : Type} {R : Rec α}
/-- append, as a step of a region that draws: for 'go_region_law'. -/
theorem step_appV {P : Program} {t e : TypeId} {by_ : Nat} (F : Fit P R t e by_) {w : World} {ops : Array Oper} {o : Oper} {a : Act} {K : Act → World → Prop} {Q : Exit → Act → World → Prop} {E : Prop} (hgd : o.guard = none) (s x : Operand)
    (ho : o.op = .call { callee := .builtin .append, args := #[s, x], argTypes := #[t, t] })
    (S : Nat → Prop) (A : Option Addr) (n c : Nat) (l : List α) (hs : a.eval s = .slice A n c) (h : OV R e w S A n c l) (B : Nat) (A2 : Option Addr) (m c2 : Nat) (l2 : List α) (hx : a.eval x = .slice A2 m c2) (hr : RV R w B A2 m l2)
    (N : Nat) (hN : N = n + m) (L : List α) (hL : L = l ++ l2) (hsz : (n + m) * by_ ≤ 140737488355328) (hS : ∀ k, S k → k < w.heap.size)
    (hK : ∀ A' c' w', OV R e w' S A' N c' L → Kp S w w' → K (a.put o.dst (.slice A' N c')) w') : if Region.wanted o (yielded ops a.tmps) = true then Oper.wp P o a w K Q else E := by
  have hw : Region.wanted o (yielded ops a.tmps) = true := by simp [Region.wanted, hgd]
  rw [if_pos hw]
  subst hN
  subst hL
  obtain ⟨A', c', w', hrun, h2, h3⟩ := run_appV F w o.type S A n c l h B A2 m c2 l2 hr hsz hS
  unfold Oper.wp execOp
  simp only [ho, resolve, invoke, builtin, Sem.run_bind, Sem.run_pure, Result.andThen_ok, List.map_toArray, List.map_cons, List.map_nil, hs, hx, hrun]
  exact hK _ _ _ h2 h3
end
theorem int_info : (Tryz.prog.info? 3).map (fun i => (i.zero, i.size, i.bytes)) = some (some (.int .i64 0), 1, 8) := by kernel_rfl
theorem u16_info : (Tryz.prog.info? 24).map (fun i => (i.zero, i.size, i.bytes)) = some (some (.int .u16 0), 1, 2) := by kernel_rfl
theorem inFit : Fit Tryz.prog inR 25 3 8 := fit_of (z := .int .i64 0) Tryz.underlying25 (m := 1) int_info rfl rfl (by decide)
theorem woFit : Fit Tryz.prog woR 26 24 2 := fit_of (z := .int .u16 0) Tryz.underlying26 (m := 1) u16_info rfl rfl (by decide)
theorem rv_int (w : World) (x : Int) : RV inR (w.alloc (.cells #[.int .i64 x] 3)) (w.heap.size + 1) (some ⟨w.heap.size, 0, none⟩) 1 [x] := by
  refine ⟨rfl, allok_one trivial, fun _ => ⟨w.heap.size, 0, rfl, by omega, fun i hi j hj => ?_⟩⟩
  obtain rfl : i = 0 := by omega
  obtain rfl : j = 0 := by have : j < 1 := hj; omega
  exact (Blk.new w #[.int .i64 x] _).cell 0
theorem rv_wo (w : World) (x : Int) (h0 : 0 ≤ x) (h1 : x < 65536) : RV woR (w.alloc (.cells #[.int .u16 x] 24)) (w.heap.size + 1) (some ⟨w.heap.size, 0, none⟩) 1 [x] := by
  refine ⟨rfl, allok_one ⟨h0, h1⟩, fun _ => ⟨w.heap.size, 0, rfl, by omega, fun i hi j hj => ?_⟩⟩
  obtain rfl : i = 0 := by omega
  obtain rfl : j = 0 := by have : j < 1 := hj; omega
  exact (Blk.new w #[.int .u16 x] _).cell 0
/-- Blocks older than m that are neither the taker's nor the instruction's. -/
def Old (m g h : Nat) : Nat → Prop := fun k => k < m ∧ k ≠ g ∧ k ≠ h
theorem Kp.old {m g h : Nat} {w w' : World} (k : Kp (Not2 g h) w w') : Kp (Old m g h) w w' := k.mono fun _ hk => hk.2
theorem Kp.oldLt {m g h : Nat} {w w' : World} (k : Kp (Lt m) w w') : Kp (Old m g h) w w' := k.mono fun _ hk => hk.1
/-- The jumps of a table: k of them from place a on, and where the taker then is. -/
def tabL (n : Nat) (l : List Int) (f : Int) : Nat → Nat → Bool → List Int × Nat × Bool
  | 0, a, s => ([], a, s)
  | k + 1, a, s => if s then ([], a, s) else
    let r := tabL n l f k (twoA n a s) (twoS n a s)
    ((f + worth (twoV l a s)) :: r.1, r.2)
theorem BX.set_tab {w : World} {h : Nat} {r : RI} (X : BX w h r) (A : Option Addr) (n c : Nat) : BX (w.setCell ⟨h, 7, none⟩ (.slice A n c)) h { r with tA := A, tn := n, tc := c } := by
  have := Blk.set X 7 (.slice A n c)
  simpa [BX, RI.cells] using this
theorem BX.set_mat {w : World} {h : Nat} {r : RI} (X : BX w h r) (A : Option Addr) (n c : Nat) : BX (w.setCell ⟨h, 8, none⟩ (.slice A n c)) h { r with mA := A, mn := n, mc := c } := by
  have := Blk.set X 8 (.slice A n c)
  simpa [BX, RI.cells] using this
theorem BX.alloc {w : World} {h : Nat} {r : RI} (X : BX w h r) (o : Obj) : BX (w.alloc o) h r := Blk.alloc X o
theorem BX.kpl {w w' : World} {o : Obj} {h m : Nat} {r : RI} (X : BX w h r) (k : Kp (Lt m) (w.alloc o) w') (hm : h < m) : BX w' h r := Blk.kp (Blk.alloc X o) k hm
theorem TK.kpl {w w' : World} {o : Obj} {g n c at_ m : Nat} {A : Option Addr} {s : Bool} (X : TK w g A n c at_ s) (k : Kp (Lt m) (w.alloc o) w') (hm : g < m) : TK w' g A n c at_ s := Blk.kp (Blk.alloc X o) k hm
theorem Rd.old {w w' : World} {B g h m n : Nat} {A : Option Addr} {l : List Int} (hr : Rd w B A n l) (k : Kp (Old m g h) w w') (hg : B ≤ g) (hh : B ≤ h) (hm : g < m) : Rd w' B A n l :=
  hr.keep fun p hp => k.cell (show Old m g h p.block from ⟨by omega, by omega, by omega⟩)
/-- One more jump: the call, the append, the store. -/
theorem Kp.more {m g h : Nat} {w w5 w6 : World} {o : Obj} (k5 : Kp (Not1 g) w w5) (k6 : Kp (Lt m) (w5.alloc o) w6) (hm : m ≤ w5.heap.size) (j : Nat) (v : Value) : Kp (Old m g h) w (w6.setCell ⟨h, j, none⟩ v) :=
  have k5' : Kp (Old m g h) w w5 := k5.mono fun _ hk => hk.2.1
  have k6' : Kp (Old m g h) w w6 := (k5'.alloc (fun k hk => Nat.lt_of_lt_of_le hk.1 hm) o).trans k6.oldLt
  Kp.setCell k6' (p := ⟨h, j, none⟩) (fun hk => hk.2.2 rfl) v
end Go.Proofs.YtolifmpkillglaaGreatDoor
