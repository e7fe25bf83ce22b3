import Derived.Test.YtolifmpkillglaaGreatDoorIl
import Derived.Test.YtolifmpkillglaaGreatDoorChecked
import Derived.LaidEql
import Derived.Stop.Asserts
import Derived.RowKitTokens
set_option linter.unusedVariables false
set_option maxRecDepth 100000
namespace Go.Proofs.YtolifmpkillglaaGreatDoor
open Go.RowKit Go.Extern.Stop Go.Stop Go.Extern
/-! errors.Is, of the errors that readAll answers, against errForm; Read. -/
theorem isTypeOf (v : Value) (w : World) : (Extern.ReflectliteType.typeOf #[.iface 139 v]).run Tryz.prog w = .ok (.iface 107 (.agg #[.pointer (some ⟨3 + 1, 139, none⟩)])) w := by kernel_rfl
theorem isComparable (w : World) : ((Extern.ReflectliteType.method fun t => do Go.Extern.Rtype.noPackHeld "Comparable" t; (fun a => Value.bool a.comparable) <$> typeInfo t) #[.agg #[.pointer (some ⟨3 + 1, 139, none⟩)]]).run Tryz.prog w = .ok (.bool true) w := by kernel_rfl
theorem isMethodComparable (n : Nat) (v : Value) (w : World) : (Go.method (n + 1) 107 v "Comparable").run Tryz.prog w = .ok (111, v) w := by kernel_rfl
theorem isComp : (Tryz.prog.info? 139).map (·.comparable) = some true := by kernel_rfl
theorem isSize : (Tryz.prog.info? 163).map (·.size) = some 1 := by kernel_rfl
theorem noIsM (v : Value) (xT : TypeId) (w : World) : (Instr.typeAssert (.iface 77 v) xT 109 true).run Tryz.prog w = .ok (.tuple #[.nilIface, .bool false]) w := run_typeAssert_lacksB Tryz.underlying109 (by kernel_rfl) (by kernel_rfl) v xT w
theorem hasUnwrapM (v : Value) (xT : TypeId) (w : World) : (Instr.typeAssert (.iface 77 v) xT 112 true).run Tryz.prog w = .ok (.tuple #[.iface 77 v, .bool true]) w := run_typeAssert_hasB Tryz.underlying112 (by kernel_rfl) v xT w
theorem methodUnwrap (n : Nat) (f : Int) (y : ByteArray) (w : World) : (Go.method (n + 1) 77 (.agg #[.int .i64 f, .string y]) "Unwrap").run Tryz.prog w = .ok (107, (.agg #[.int .i64 f, .string y])) w := by kernel_rfl
theorem noIsN (v : Value) (xT : TypeId) (w : World) : (Instr.typeAssert (.iface 31 v) xT 109 true).run Tryz.prog w = .ok (.tuple #[.nilIface, .bool false]) w := run_typeAssert_lacksB Tryz.underlying109 (by kernel_rfl) (by kernel_rfl) v xT w
theorem noUnwrapN (v : Value) (xT : TypeId) (w : World) : (Instr.typeAssert (.iface 31 v) xT 112 true).run Tryz.prog w = .ok (.tuple #[.nilIface, .bool false]) w := run_typeAssert_lacksB Tryz.underlying112 (by kernel_rfl) (by kernel_rfl) v xT w
theorem noUnwrapsN (v : Value) (xT : TypeId) (w : World) : (Instr.typeAssert (.iface 31 v) xT 114 true).run Tryz.prog w = .ok (.tuple #[.nilIface, .bool false]) w := run_typeAssert_lacksB Tryz.underlying114 (by kernel_rfl) (by kernel_rfl) v xT w
/-- errForm holds a pointer to an error of errors.New's make. -/
def EF (w : World) (b : Addr) : Prop := w.cell? ⟨0, 0, none⟩ = some (.iface 139 (.pointer (some b)))
theorem unwrap_mis (f : Int) (y : ByteArray) (b : Addr) (w : World) (h : EF w b) (hs : 0 < w.heap.size) : Calls Tryz.prog 107 #[.agg #[.int .i64 f, .string y]] w fun e w' => e = .returned (.iface 139 (.pointer (some b))) ∧ Below w.heap.size w w' := by
  unfold EF at h
  have h2 : (w.alloc (.cells #[.int .i64 f, .string y] 77)).cell? ⟨0, 0, none⟩ = some (.iface 139 (.pointer (some b))) := (World.cell?_alloc_lt w _ _ hs).trans h
  go_enter Tryz.func107, Tryz.ntmps107
  go_wp2_with fail
  go_returns
  exact ⟨rfl, below_new _ _⟩
theorem is_nil (b : Addr) (w : World) : Calls Tryz.prog 21 #[.nilIface, .iface 139 (.pointer (some b))] w fun e w' => e = .returned (.bool false) ∧ Below w.heap.size w w' := by
  have hn := run_eql_iface_nil_left (P := Tryz.prog) w 139 (.pointer (some b)) Tryz.underlying51
  go_enter Tryz.func21, Tryz.ntmps21
  go_wp2
  go_ret
  exact ⟨rfl, Below.refl _ _⟩
set_option maxHeartbeats 1000000 in
theorem is_short (b : Addr) (w : World) : Calls Tryz.prog 21 #[.iface 31 (.int .i64 4), .iface 139 (.pointer (some b))] w fun e w' => e = .returned (.bool false) ∧ Below w.heap.size w w' := by
  have h8 := @run_callFunc_extern Tryz.prog 42 _ Extern.ReflectliteType.typeOf Tryz.func42 (by kernel_rfl) (by kernel_rfl) (by kernel_rfl) (by kernel_rfl)
  have h32 := @run_callFunc_extern Tryz.prog 111 _ (Extern.ReflectliteType.method fun t => do Go.Extern.Rtype.noPackHeld "Comparable" t; pure (.bool (← typeInfo t).comparable)) Tryz.func111 (by kernel_rfl) (by kernel_rfl) (by kernel_rfl) (by kernel_rfl)
  have tT := isTypeOf
  have cT := isComparable
  have mR := isMethodComparable
  have nE := noIsN
  have uE := noUnwrapN
  have vE := noUnwrapsN
  have hty := run_eql_iface_types (P := Tryz.prog) 31 139 (.int .i64 4) (.pointer (some b)) Tryz.underlying51 (by decide) w
  go_enter Tryz.func21, Tryz.ntmps21
  go_wp2
  refine wp_loop_rounds 1 ?_
  rw [rounds_succ]
  go_wp2
  go_ret
  exact ⟨rfl, Below.refl _ _⟩
set_option maxHeartbeats 1000000 in
theorem is_mis (f : Int) (y : ByteArray) (b : Addr) (w : World) (h : EF w b) (hs : 0 < w.heap.size) : Calls Tryz.prog 21 #[misV f y, .iface 139 (.pointer (some b))] w fun e w' => e = .returned (.bool true) ∧ Below w.heap.size w w' := by
  unfold misV
  obtain ⟨i, hi, hcmp⟩ := Option.map_eq_some_iff.1 isComp
  obtain ⟨j, hj, hjs⟩ := Option.map_eq_some_iff.1 isSize
  have h8 := @run_callFunc_extern Tryz.prog 42 _ Extern.ReflectliteType.typeOf Tryz.func42 (by kernel_rfl) (by kernel_rfl) (by kernel_rfl) (by kernel_rfl)
  have h32 := @run_callFunc_extern Tryz.prog 111 _ (Extern.ReflectliteType.method fun t => do Go.Extern.Rtype.noPackHeld "Comparable" t; pure (.bool (← typeInfo t).comparable)) Tryz.func111 (by kernel_rfl) (by kernel_rfl) (by kernel_rfl) (by kernel_rfl)
  have tT := isTypeOf
  have cT := isComparable
  have mR := isMethodComparable
  have nE := noIsM
  have uE := hasUnwrapM
  have mU := methodUnwrap
  have HU := Lib.hid (unwrap_mis f y b w h hs)
  have heq := fun w => run_eql_iface_ptr_same (P := Tryz.prog) w b Tryz.underlying51 Tryz.underlying139 hi hcmp hj
  have hty := fun w => run_eql_iface_types (P := Tryz.prog) 77 139 (.agg #[.int .i64 f, .string y]) (.pointer (some b)) Tryz.underlying51 (by decide) w
  clear h hs
  go_enter Tryz.func21, Tryz.ntmps21
  go_wp2
  refine wp_loop_rounds 2 ?_
  rw [rounds_succ]
  go_wp2_with ((refine HU.out.mono ?_); rintro e w2 ⟨rfl, b2⟩)
  rw [rounds_succ]
  go_wp2
  go_ret
  exact ⟨rfl, b2⟩
end Go.Proofs.YtolifmpkillglaaGreatDoor
