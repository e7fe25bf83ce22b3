import Derived.Test.YtolifmpkillglaaDoorJb
import Derived.Test.YtolifmpkillglaaDoorGe
import Derived.Laws.Rows
set_option linter.unusedVariables false
set_option maxRecDepth 100000
namespace Go.Proofs.YtolifmpkillglaaDoor
open Go.RowKit
/-! The bytes of an instruction, put. -/
def bodyB (k : Nat) (x : Ins) : List Int := match k with
  | 1 => [x.sc.n % 256]
  | 2 => wd2 x.sc.n
  | 3 => [x.sc.a % 256]
  | 4 => [x.sc.a % 256] ++ [x.sc.b]
  | 5 => wd2 (jmpW x.sc.at_ x.sc.jump)
  | 6 => wd2 (jmpW x.sc.at_ x.sc.jump) ++ (wd2 x.sc.low ++ (wd2 ((x.sc.low + x.tab.length - 1) % 65536) ++ rowsL x.sc.at_ x.tab x.mat x.tab.length))
  | 7 => wd2 (jmpW x.sc.at_ x.sc.jump) ++ (wd2 ((x.tab.length : Int) % 65536) ++ rowsL x.sc.at_ x.tab x.mat x.tab.length)
  | 8 => wd2 (x.sc.pool % 65536)
  | 9 => [x.sc.a % 256] ++ (wd2 (x.sc.pool % 65536) ++ [x.sc.b])
  | 10 => [x.sc.a % 256]
  | 11 => [x.sc.a % 256] ++ wd2 (x.sc.pool % 65536)
  | _ => []
theorem inst_sz' : (Tryd.prog.info? 40).map (·.size) = some 10 := by kernel_rfl
theorem wpList_ldI' {w : World} {ops : Array Oper} {rest : List Oper} {o : Oper} {a : Act} {Q : Exit → Act → World → Prop} {h : Nat} {cells : Array Value} (hgd : o.guard = none) (x : Operand) (ho : o.op = .load 40 x)
    (X : Blk w h cells 40) (hc : cells.size = 10) (hx : a.eval x = .pointer (some ⟨h, 0, none⟩)) (hK : wpList Tryd.prog ops Q rest (a.put o.dst (.agg cells)) w) : wpList Tryd.prog ops Q (o :: rest) a w :=
  wpList_load_row hgd _ x ho h hx _ cells (0, 0) _ X Tryd.underlying40 rfl (by rw [inst_sz', hc]) hK
theorem kI_lt : ∀ n : Nat, n < 256 → (ofC (n : Int)).1.imm = (((ofC (n : Int)).1.imm).toNat : Int) ∧ ((ofC (n : Int)).1.imm).toNat < 12 := by decide +kernel
set_option maxHeartbeats 8000000 in
theorem appI_any (S : Nat → Prop) (A : Option Addr) (n c B : Nat) (l : List Int) (r : RI) (x : Ins) (w : World) (T : Tab w) (O : OS w S A n c l) (hS : ∀ k, S k → k < w.heap.size) (h : InsR w B r x) (hok : x.sc.ok) (hB : ∀ k, k < B → S k) (hBw : B ≤ w.heap.size) (ht : r.tn ≤ 70000) (hn : n ≤ 5000) :
    Calls Tryd.prog 29 #[.slice A n c, r.val] w fun e w' => ∃ A' N c', e = .returned (.slice A' N c') ∧ OS w' S A' N c' (l ++ (x.sc.op :: bodyB ((ofC x.sc.op).1.imm).toNat x)) ∧ Kp S w w' := by
  have h' := h
  obtain ⟨hsc, ht1, hm1, hle, hle2⟩ := h
  obtain ⟨⟨s0, s1, s2, s3, s4, s5, s6, s7⟩, tA, tn, tc, mA, mn, mc⟩ := r
  obtain ⟨sc, tab, mat⟩ := x
  simp only at hsc
  subst hsc
  unfold RI.val
  simp only at ht1 hm1 hle hle2 ht hok ⊢
  obtain ⟨⟨ok1, ok2⟩, ⟨ok3, ok4⟩, ⟨ok5, ok6⟩, ⟨ok7, ok8⟩⟩ := hok
  simp only at ok1 ok2 ok3 ok4 ok5 ok6 ok7 ok8
  have hlt := ht1.len
  have HOF := Lib.hid (of_any s1 ok1 ok2)
  obtain ⟨k, hk, hk12⟩ : ∃ k : Nat, (ofC s1).1.imm = k ∧ k < 12 := by
    obtain ⟨q, rfl⟩ : ∃ q : Nat, s1 = q := ⟨s1.toNat, by omega⟩
    have := kI_lt q (by omega)
    exact ⟨_, this.1, this.2⟩
  have hkn : ((ofC s1).1.imm).toNat = k := by rw [hk]; rfl
  rw [hkn]
  rcases hof : ofC s1 with ⟨⟨x0, x1, x2, x3, x4, x5, x6⟩, er⟩
  rw [hof] at HOF hk
  unfold OfSaid at HOF
  simp only [Inf.val] at HOF
  simp only at hk
  subst hk
  clear hof hkn
  have HT := Lib.hid (T.alloc (.cells #[.int .i64 s0, .int .u8 s1, .int .i64 s2, .int .u8 s3, .int .u16 s4, .int .i64 s5, .int .i64 s6, .slice tA tn tc, .slice mA mn mc, .int .u16 s7] 40))
  have HY := Lib.hid (Blk.new w #[.int .i64 s0, .int .u8 s1, .int .i64 s2, .int .u8 s3, .int .u16 s4, .int .i64 s5, .int .i64 s6, .slice tA tn tc, .slice mA mn mc, .int .u16 s7] 40)
  have HO := Lib.hid (O.also (.cells #[.int .i64 s0, .int .u8 s1, .int .i64 s2, .int .u8 s3, .int .u16 s4, .int .i64 s5, .int .i64 s6, .slice tA tn tc, .slice mA mn mc, .int .u16 s7] 40))
  have HS := Lib.hid (also_lt hS (.cells #[.int .i64 s0, .int .u8 s1, .int .i64 s2, .int .u8 s3, .int .u16 s4, .int .i64 s5, .int .i64 s6, .slice tA tn tc, .slice mA mn mc, .int .u16 s7] 40))
  have HIR := Lib.hid h'
  have HBS0 := Lib.hid hB
  have hsw : w.heap.size < (w.alloc (.cells #[.int .i64 s0, .int .u8 s1, .int .i64 s2, .int .u8 s3, .int .u16 s4, .int .i64 s5, .int .i64 s6, .slice tA tn tc, .slice mA mn mc, .int .u16 s7] 40)).heap.size := by simp
  have HK1 : Hid (Below w.heap.size w (w.alloc (.cells #[.int .i64 s0, .int .u8 s1, .int .i64 s2, .int .u8 s3, .int .u16 s4, .int .i64 s5, .int .i64 s6, .slice tA tn tc, .slice mA mn mc, .int .u16 s7] 40))) := Lib.hid ((Below.refl _ _).alloc (Nat.le_refl _) _)
  clear T O h' ht1 hm1
  go_enter Tryd.func29, Tryd.ntmps29
  go_upto_region 1 with (fail)
  generalize w.alloc (.cells #[.int .i64 s0, .int .u8 s1, .int .i64 s2, .int .u8 s3, .int .u16 s4, .int .i64 s5, .int .i64 s6, .slice tA tn tc, .slice mA mn mc, .int .u16 s7] 40) = w1 at HT HY HO HS hsw HK1 ⊢
  have y1 : w1.cell? ⟨w.heap.size, 1, none⟩ = some (.int .u8 s1) := HY.out.cell 1
  go_wp2_with fail
  refine (HOF.out _ HT.out).mono ?_
  rintro e w2 ⟨rfl, b2⟩
  have hz2 := b2.size
  have HY := Lib.hid ((HY.out.below b2).alloc (.cells #[.int .u8 x0, .string ⟨x1.toArray⟩, .int .u8 k, .int .i64 x3, .int .i64 x4, .bool x5, .bool x6] 56))
  have HO := Lib.hid ((HO.out.below b2).also (.cells #[.int .u8 x0, .string ⟨x1.toArray⟩, .int .u8 k, .int .i64 x3, .int .i64 x4, .bool x5, .bool x6] 56))
  have HS := Lib.hid (also_lt (fun q hq => Nat.lt_of_lt_of_le (HS.out q hq) hz2) (.cells #[.int .u8 x0, .string ⟨x1.toArray⟩, .int .u8 k, .int .i64 x3, .int .i64 x4, .bool x5, .bool x6] 56))
  have HI := Lib.hid (Blk.new w2 #[.int .u8 x0, .string ⟨x1.toArray⟩, .int .u8 k, .int .i64 x3, .int .i64 x4, .bool x5, .bool x6] 56)
  have HK1 := Lib.hid ((HK1.out.trans (b2.mono (by omega))).alloc (by omega) (.cells #[.int .u8 x0, .string ⟨x1.toArray⟩, .int .u8 k, .int .i64 x3, .int .i64 x4, .bool x5, .bool x6] 56))
  clear b2 y1 HT
  go_upto_region 2 with (fail)
  generalize w2.alloc (.cells #[.int .u8 x0, .string ⟨x1.toArray⟩, .int .u8 k, .int .i64 x3, .int .i64 x4, .bool x5, .bool x6] 56) = w3 at HY HO HS HI HK1 ⊢
  have hz3 := HK1.out.size
  have HK0 := Lib.hid (Kp.of_below HK1.out hS)
  have HBS : Hid (∀ q, q < B → (Also (Also S w.heap.size) w2.heap.size) q) := Lib.hid (fun q hq => .inl (.inl (HBS0.out q hq)))
  have HIR : Hid (∀ W, Kp (Also (Also S w.heap.size) w2.heap.size) w3 W → InsR W B ⟨⟨s0, s1, s2, s3, s4, s5, s6, s7⟩, tA, tn, tc, mA, mn, mc⟩ ⟨⟨s0, s1, s2, s3, s4, s5, s6, s7⟩, tab, mat⟩) := Lib.hid (fun W hW => (HIR.out.below HK1.out hBw).keep fun p hp => hW.cell (HBS.out _ hp))
  have HK := Lib.hid (Kp.refl (Also (Also S w.heap.size) w2.heap.size) w3)
  have hw8 : ∀ z : Int, IntKind.u8.wrap z = z % 256 := fun z => by simp [IntKind.wrap, IntKind.bits, IntKind.signed]
  have hw16 : ∀ z : Int, IntKind.u16.wrap z = z % 65536 := fun z => by simp [IntKind.wrap, IntKind.bits, IntKind.signed]
  clear HK1 HBS0
  have y1 : w3.cell? ⟨w.heap.size, 1, none⟩ = some (.int .u8 s1) := HY.out.cell 1
  go_wp2_with fail
  refine (appB_any (Also (Also S w.heap.size) w2.heap.size) A n c l s1 w3 HO.out HS.out ok1 ok2 (by omega)).mono ?_
  rintro e w4 ⟨A4, c4, rfl, o4, k4⟩
  have HY := Lib.hid (HY.out.kp k4 (.inl (.inr rfl)))
  have HI := Lib.hid (HI.out.kp k4 (.inr rfl))
  have HS := Lib.hid (k4.lt HS.out)
  have HK := Lib.hid (HK.out.trans k4)
  have HO := Lib.hid o4
  have q2 : w4.cell? ⟨w2.heap.size, 2, none⟩ = some (.int .u8 k) := HI.out.cell 2
  clear y1 o4 k4
  have h12 : k = 0 ∨ k = 1 ∨ k = 2 ∨ k = 3 ∨ k = 4 ∨ k = 5 ∨ k = 6 ∨ k = 7 ∨ k = 8 ∨ k = 9 ∨ k = 10 ∨ k = 11 := by omega
  clear hk12
  rcases h12 with rfl | rfl | rfl | rfl | rfl | rfl | rfl | rfl | rfl | rfl | rfl | rfl
  · clear HI
    go_wp2_with fail
    go_returns
    exact ⟨_, _, _, rfl, by have := HO.out.less (S' := S) (fun q hq => .inl (.inl hq)); simpa [List.append_assoc, bodyB] using this, HK0.out.trans (HK.out.mono (fun q hq => .inl (.inl hq)))⟩
  · clear HI
    have y0 : w4.cell? ⟨w.heap.size, 0, none⟩ = some (.int .i64 s0) := HY.out.cell 0
    have y2 : w4.cell? ⟨w.heap.size, 2, none⟩ = some (.int .i64 s2) := HY.out.cell 2
    have y3 : w4.cell? ⟨w.heap.size, 3, none⟩ = some (.int .u8 s3) := HY.out.cell 3
    have y4 : w4.cell? ⟨w.heap.size, 4, none⟩ = some (.int .u16 s4) := HY.out.cell 4
    have y5 : w4.cell? ⟨w.heap.size, 5, none⟩ = some (.int .i64 s5) := HY.out.cell 5
    have y6 : w4.cell? ⟨w.heap.size, 6, none⟩ = some (.int .i64 s6) := HY.out.cell 6
    have y7 : w4.cell? ⟨w.heap.size, 7, none⟩ = some (.slice tA tn tc) := HY.out.cell 7
    have y9 : w4.cell? ⟨w.heap.size, 9, none⟩ = some (.int .u16 s7) := HY.out.cell 9
    go_wp2_with fail
    refine (appB_any (Also (Also S w.heap.size) w2.heap.size) _ _ _ _ (s4 % 256) w4 HO.out HS.out (by omega) (by omega) (by omega)).mono ?_
    rintro e v0 ⟨A5, c5, rfl, o5, k5⟩
    have HY := Lib.hid (HY.out.kp k5 (.inl (.inr rfl)))
    have HS := Lib.hid (k5.lt HS.out)
    have HK := Lib.hid (HK.out.trans k5)
    have HO := Lib.hid o5
    clear y0 y2 y3 y4 y5 y6 y7 y9
    clear o5 k5
    go_wp2_with fail
    go_returns
    exact ⟨_, _, _, rfl, by have := HO.out.less (S' := S) (fun q hq => .inl (.inl hq)); simpa [List.append_assoc, bodyB] using this, HK0.out.trans (HK.out.mono (fun q hq => .inl (.inl hq)))⟩
  · clear HI
    have y0 : w4.cell? ⟨w.heap.size, 0, none⟩ = some (.int .i64 s0) := HY.out.cell 0
    have y2 : w4.cell? ⟨w.heap.size, 2, none⟩ = some (.int .i64 s2) := HY.out.cell 2
    have y3 : w4.cell? ⟨w.heap.size, 3, none⟩ = some (.int .u8 s3) := HY.out.cell 3
    have y4 : w4.cell? ⟨w.heap.size, 4, none⟩ = some (.int .u16 s4) := HY.out.cell 4
    have y5 : w4.cell? ⟨w.heap.size, 5, none⟩ = some (.int .i64 s5) := HY.out.cell 5
    have y6 : w4.cell? ⟨w.heap.size, 6, none⟩ = some (.int .i64 s6) := HY.out.cell 6
    have y7 : w4.cell? ⟨w.heap.size, 7, none⟩ = some (.slice tA tn tc) := HY.out.cell 7
    have y9 : w4.cell? ⟨w.heap.size, 9, none⟩ = some (.int .u16 s7) := HY.out.cell 9
    go_wp2_with fail
    refine (appW_any (Also (Also S w.heap.size) w2.heap.size) _ _ _ _ s4 w4 HO.out HS.out (by omega) (by omega) (by omega)).mono ?_
    rintro e v0 ⟨A5, c5, rfl, o5, k5⟩
    have HY := Lib.hid (HY.out.kp k5 (.inl (.inr rfl)))
    have HS := Lib.hid (k5.lt HS.out)
    have HK := Lib.hid (HK.out.trans k5)
    have HO := Lib.hid o5
    clear y0 y2 y3 y4 y5 y6 y7 y9
    clear o5 k5
    go_wp2_with fail
    go_returns
    exact ⟨_, _, _, rfl, by have := HO.out.less (S' := S) (fun q hq => .inl (.inl hq)); simpa [List.append_assoc, bodyB] using this, HK0.out.trans (HK.out.mono (fun q hq => .inl (.inl hq)))⟩
  · clear HI
    have y0 : w4.cell? ⟨w.heap.size, 0, none⟩ = some (.int .i64 s0) := HY.out.cell 0
    have y2 : w4.cell? ⟨w.heap.size, 2, none⟩ = some (.int .i64 s2) := HY.out.cell 2
    have y3 : w4.cell? ⟨w.heap.size, 3, none⟩ = some (.int .u8 s3) := HY.out.cell 3
    have y4 : w4.cell? ⟨w.heap.size, 4, none⟩ = some (.int .u16 s4) := HY.out.cell 4
    have y5 : w4.cell? ⟨w.heap.size, 5, none⟩ = some (.int .i64 s5) := HY.out.cell 5
    have y6 : w4.cell? ⟨w.heap.size, 6, none⟩ = some (.int .i64 s6) := HY.out.cell 6
    have y7 : w4.cell? ⟨w.heap.size, 7, none⟩ = some (.slice tA tn tc) := HY.out.cell 7
    have y9 : w4.cell? ⟨w.heap.size, 9, none⟩ = some (.int .u16 s7) := HY.out.cell 9
    go_wp2_with fail
    refine (appB_any (Also (Also S w.heap.size) w2.heap.size) _ _ _ _ (s2 % 256) w4 HO.out HS.out (by omega) (by omega) (by omega)).mono ?_
    rintro e v0 ⟨A5, c5, rfl, o5, k5⟩
    have HY := Lib.hid (HY.out.kp k5 (.inl (.inr rfl)))
    have HS := Lib.hid (k5.lt HS.out)
    have HK := Lib.hid (HK.out.trans k5)
    have HO := Lib.hid o5
    clear y0 y2 y3 y4 y5 y6 y7 y9
    clear o5 k5
    go_wp2_with fail
    go_returns
    exact ⟨_, _, _, rfl, by have := HO.out.less (S' := S) (fun q hq => .inl (.inl hq)); simpa [List.append_assoc, bodyB] using this, HK0.out.trans (HK.out.mono (fun q hq => .inl (.inl hq)))⟩
  · clear HI
    have y0 : w4.cell? ⟨w.heap.size, 0, none⟩ = some (.int .i64 s0) := HY.out.cell 0
    have y2 : w4.cell? ⟨w.heap.size, 2, none⟩ = some (.int .i64 s2) := HY.out.cell 2
    have y3 : w4.cell? ⟨w.heap.size, 3, none⟩ = some (.int .u8 s3) := HY.out.cell 3
    have y4 : w4.cell? ⟨w.heap.size, 4, none⟩ = some (.int .u16 s4) := HY.out.cell 4
    have y5 : w4.cell? ⟨w.heap.size, 5, none⟩ = some (.int .i64 s5) := HY.out.cell 5
    have y6 : w4.cell? ⟨w.heap.size, 6, none⟩ = some (.int .i64 s6) := HY.out.cell 6
    have y7 : w4.cell? ⟨w.heap.size, 7, none⟩ = some (.slice tA tn tc) := HY.out.cell 7
    have y9 : w4.cell? ⟨w.heap.size, 9, none⟩ = some (.int .u16 s7) := HY.out.cell 9
    go_wp2_with fail
    refine (appB_any (Also (Also S w.heap.size) w2.heap.size) _ _ _ _ (s2 % 256) w4 HO.out HS.out (by omega) (by omega) (by omega)).mono ?_
    rintro e v0 ⟨A5, c5, rfl, o5, k5⟩
    have HY := Lib.hid (HY.out.kp k5 (.inl (.inr rfl)))
    have HS := Lib.hid (k5.lt HS.out)
    have HK := Lib.hid (HK.out.trans k5)
    have HO := Lib.hid o5
    clear y0 y2 y3 y4 y5 y6 y7 y9
    clear o5 k5
    have y0 : v0.cell? ⟨w.heap.size, 0, none⟩ = some (.int .i64 s0) := HY.out.cell 0
    have y2 : v0.cell? ⟨w.heap.size, 2, none⟩ = some (.int .i64 s2) := HY.out.cell 2
    have y3 : v0.cell? ⟨w.heap.size, 3, none⟩ = some (.int .u8 s3) := HY.out.cell 3
    have y4 : v0.cell? ⟨w.heap.size, 4, none⟩ = some (.int .u16 s4) := HY.out.cell 4
    have y5 : v0.cell? ⟨w.heap.size, 5, none⟩ = some (.int .i64 s5) := HY.out.cell 5
    have y6 : v0.cell? ⟨w.heap.size, 6, none⟩ = some (.int .i64 s6) := HY.out.cell 6
    have y7 : v0.cell? ⟨w.heap.size, 7, none⟩ = some (.slice tA tn tc) := HY.out.cell 7
    have y9 : v0.cell? ⟨w.heap.size, 9, none⟩ = some (.int .u16 s7) := HY.out.cell 9
    go_wp2_with fail
    refine (appB_any (Also (Also S w.heap.size) w2.heap.size) _ _ _ _ s3 v0 HO.out HS.out (by omega) (by omega) (by omega)).mono ?_
    rintro e v1 ⟨A5, c5, rfl, o5, k5⟩
    have HY := Lib.hid (HY.out.kp k5 (.inl (.inr rfl)))
    have HS := Lib.hid (k5.lt HS.out)
    have HK := Lib.hid (HK.out.trans k5)
    have HO := Lib.hid o5
    clear y0 y2 y3 y4 y5 y6 y7 y9
    clear o5 k5
    go_wp2_with fail
    go_returns
    exact ⟨_, _, _, rfl, by have := HO.out.less (S' := S) (fun q hq => .inl (.inl hq)); simpa [List.append_assoc, bodyB] using this, HK0.out.trans (HK.out.mono (fun q hq => .inl (.inl hq)))⟩
  · clear HI
    have y0 : w4.cell? ⟨w.heap.size, 0, none⟩ = some (.int .i64 s0) := HY.out.cell 0
    have y2 : w4.cell? ⟨w.heap.size, 2, none⟩ = some (.int .i64 s2) := HY.out.cell 2
    have y3 : w4.cell? ⟨w.heap.size, 3, none⟩ = some (.int .u8 s3) := HY.out.cell 3
    have y4 : w4.cell? ⟨w.heap.size, 4, none⟩ = some (.int .u16 s4) := HY.out.cell 4
    have y5 : w4.cell? ⟨w.heap.size, 5, none⟩ = some (.int .i64 s5) := HY.out.cell 5
    have y6 : w4.cell? ⟨w.heap.size, 6, none⟩ = some (.int .i64 s6) := HY.out.cell 6
    have y7 : w4.cell? ⟨w.heap.size, 7, none⟩ = some (.slice tA tn tc) := HY.out.cell 7
    have y9 : w4.cell? ⟨w.heap.size, 9, none⟩ = some (.int .u16 s7) := HY.out.cell 9
    go_wp2_with fail
    refine (appJ_any (Also (Also S w.heap.size) w2.heap.size) _ _ _ _ s0 s6 w4 HO.out HS.out (by omega)).mono ?_
    rintro e v0 ⟨A5, c5, rfl, o5, k5⟩
    have HY := Lib.hid (HY.out.kp k5 (.inl (.inr rfl)))
    have HS := Lib.hid (k5.lt HS.out)
    have HK := Lib.hid (HK.out.trans k5)
    have HO := Lib.hid o5
    clear y0 y2 y3 y4 y5 y6 y7 y9
    clear o5 k5
    go_wp2_with fail
    go_returns
    exact ⟨_, _, _, rfl, by have := HO.out.less (S' := S) (fun q hq => .inl (.inl hq)); simpa [List.append_assoc, bodyB] using this, HK0.out.trans (HK.out.mono (fun q hq => .inl (.inl hq)))⟩
  · clear HI
    obtain ⟨ct, hct⟩ : ∃ z, (tn : Int) % 65536 = z := ⟨_, rfl⟩
    obtain ⟨q1, hq1⟩ : ∃ z, (s7 + ct) % 65536 = z := ⟨_, rfl⟩
    obtain ⟨hi, hhi⟩ : ∃ z, (q1 - 1) % 65536 = z := ⟨_, rfl⟩
    have hct2 : IntKind.u16.wrap (tn : Int) = ct := by rw [hw16]; exact hct
    have hq2 : IntKind.u16.wrap (s7 + ct) = q1 := by rw [hw16]; exact hq1
    have hhi2 : IntKind.u16.wrap (q1 - 1) = hi := by rw [hw16]; exact hhi
    have HHI := Lib.hid (show hi = (s7 + (tab.length : Int) - 1) % 65536 by rw [hlt]; omega)
    have hr1 : 0 ≤ hi ∧ hi < 65536 := by omega
    have y0 : w4.cell? ⟨w.heap.size, 0, none⟩ = some (.int .i64 s0) := HY.out.cell 0
    have y2 : w4.cell? ⟨w.heap.size, 2, none⟩ = some (.int .i64 s2) := HY.out.cell 2
    have y3 : w4.cell? ⟨w.heap.size, 3, none⟩ = some (.int .u8 s3) := HY.out.cell 3
    have y4 : w4.cell? ⟨w.heap.size, 4, none⟩ = some (.int .u16 s4) := HY.out.cell 4
    have y5 : w4.cell? ⟨w.heap.size, 5, none⟩ = some (.int .i64 s5) := HY.out.cell 5
    have y6 : w4.cell? ⟨w.heap.size, 6, none⟩ = some (.int .i64 s6) := HY.out.cell 6
    have y7 : w4.cell? ⟨w.heap.size, 7, none⟩ = some (.slice tA tn tc) := HY.out.cell 7
    have y9 : w4.cell? ⟨w.heap.size, 9, none⟩ = some (.int .u16 s7) := HY.out.cell 9
    go_wp2_with fail
    refine (appJ_any (Also (Also S w.heap.size) w2.heap.size) _ _ _ _ s0 s6 w4 HO.out HS.out (by omega)).mono ?_
    rintro e v0 ⟨A5, c5, rfl, o5, k5⟩
    have HY := Lib.hid (HY.out.kp k5 (.inl (.inr rfl)))
    have HS := Lib.hid (k5.lt HS.out)
    have HK := Lib.hid (HK.out.trans k5)
    have HO := Lib.hid o5
    clear y0 y2 y3 y4 y5 y6 y7 y9
    clear o5 k5
    have y0 : v0.cell? ⟨w.heap.size, 0, none⟩ = some (.int .i64 s0) := HY.out.cell 0
    have y2 : v0.cell? ⟨w.heap.size, 2, none⟩ = some (.int .i64 s2) := HY.out.cell 2
    have y3 : v0.cell? ⟨w.heap.size, 3, none⟩ = some (.int .u8 s3) := HY.out.cell 3
    have y4 : v0.cell? ⟨w.heap.size, 4, none⟩ = some (.int .u16 s4) := HY.out.cell 4
    have y5 : v0.cell? ⟨w.heap.size, 5, none⟩ = some (.int .i64 s5) := HY.out.cell 5
    have y6 : v0.cell? ⟨w.heap.size, 6, none⟩ = some (.int .i64 s6) := HY.out.cell 6
    have y7 : v0.cell? ⟨w.heap.size, 7, none⟩ = some (.slice tA tn tc) := HY.out.cell 7
    have y9 : v0.cell? ⟨w.heap.size, 9, none⟩ = some (.int .u16 s7) := HY.out.cell 9
    go_wp2_with fail
    refine (appW_any (Also (Also S w.heap.size) w2.heap.size) _ _ _ _ s7 v0 HO.out HS.out (by omega) (by omega) (by omega)).mono ?_
    rintro e v1 ⟨A5, c5, rfl, o5, k5⟩
    have HY := Lib.hid (HY.out.kp k5 (.inl (.inr rfl)))
    have HS := Lib.hid (k5.lt HS.out)
    have HK := Lib.hid (HK.out.trans k5)
    have HO := Lib.hid o5
    clear y0 y2 y3 y4 y5 y6 y7 y9
    clear o5 k5
    have y0 : v1.cell? ⟨w.heap.size, 0, none⟩ = some (.int .i64 s0) := HY.out.cell 0
    have y2 : v1.cell? ⟨w.heap.size, 2, none⟩ = some (.int .i64 s2) := HY.out.cell 2
    have y3 : v1.cell? ⟨w.heap.size, 3, none⟩ = some (.int .u8 s3) := HY.out.cell 3
    have y4 : v1.cell? ⟨w.heap.size, 4, none⟩ = some (.int .u16 s4) := HY.out.cell 4
    have y5 : v1.cell? ⟨w.heap.size, 5, none⟩ = some (.int .i64 s5) := HY.out.cell 5
    have y6 : v1.cell? ⟨w.heap.size, 6, none⟩ = some (.int .i64 s6) := HY.out.cell 6
    have y7 : v1.cell? ⟨w.heap.size, 7, none⟩ = some (.slice tA tn tc) := HY.out.cell 7
    have y9 : v1.cell? ⟨w.heap.size, 9, none⟩ = some (.int .u16 s7) := HY.out.cell 9
    go_wp2_with fail
    refine (appW_any (Also (Also S w.heap.size) w2.heap.size) _ _ _ _ hi v1 HO.out HS.out (by omega) (by omega) (by omega)).mono ?_
    rintro e v2 ⟨A5, c5, rfl, o5, k5⟩
    have HY := Lib.hid (HY.out.kp k5 (.inl (.inr rfl)))
    have HS := Lib.hid (k5.lt HS.out)
    have HK := Lib.hid (HK.out.trans k5)
    have HO := Lib.hid o5
    clear y0 y2 y3 y4 y5 y6 y7 y9
    clear o5 k5
    have y0 : v2.cell? ⟨w.heap.size, 0, none⟩ = some (.int .i64 s0) := HY.out.cell 0
    have y2 : v2.cell? ⟨w.heap.size, 2, none⟩ = some (.int .i64 s2) := HY.out.cell 2
    have y3 : v2.cell? ⟨w.heap.size, 3, none⟩ = some (.int .u8 s3) := HY.out.cell 3
    have y4 : v2.cell? ⟨w.heap.size, 4, none⟩ = some (.int .u16 s4) := HY.out.cell 4
    have y5 : v2.cell? ⟨w.heap.size, 5, none⟩ = some (.int .i64 s5) := HY.out.cell 5
    have y6 : v2.cell? ⟨w.heap.size, 6, none⟩ = some (.int .i64 s6) := HY.out.cell 6
    have y7 : v2.cell? ⟨w.heap.size, 7, none⟩ = some (.slice tA tn tc) := HY.out.cell 7
    have y9 : v2.cell? ⟨w.heap.size, 9, none⟩ = some (.int .u16 s7) := HY.out.cell 9
    go_wp2_with ((with_reducible refine wpList_ldI' rfl (.tmp 3) rfl HY.out ?_ ?_ ?_); exact rfl; exact rfl)
    refine (appR_any (Also (Also S w.heap.size) w2.heap.size) _ _ _ B _ ⟨⟨s0, s1, s2, s3, s4, s5, s6, s7⟩, tA, tn, tc, mA, mn, mc⟩ ⟨⟨s0, s1, s2, s3, s4, s5, s6, s7⟩, tab, mat⟩ v2 HO.out HS.out (HIR.out _ HK.out) HBS.out (by have := HK.out.size; omega) ht (by omega)).mono ?_
    rintro e v3 ⟨A5, N5, c5, rfl, o5, k5⟩
    have HY := Lib.hid (HY.out.kp k5 (.inl (.inr rfl)))
    have HS := Lib.hid (k5.lt HS.out)
    have HK := Lib.hid (HK.out.trans k5)
    have HO := Lib.hid o5
    clear y0 y2 y3 y4 y5 y6 y7 y9
    clear o5 k5
    go_wp2_with fail
    go_returns
    exact ⟨_, _, _, rfl, by have := HO.out.less (S' := S) (fun q hq => .inl (.inl hq)); rw [HHI.out] at this; simpa [List.append_assoc, bodyB] using this, HK0.out.trans (HK.out.mono (fun q hq => .inl (.inl hq)))⟩
  · clear HI
    obtain ⟨cw, hct⟩ : ∃ z, (tn : Int) % 65536 = z := ⟨_, rfl⟩
    have hct2 : IntKind.u16.wrap (tn : Int) = cw := by rw [hw16]; exact hct
    have HCW := Lib.hid (show cw = (tab.length : Int) % 65536 by rw [hlt]; omega)
    have hr1 : 0 ≤ cw ∧ cw < 65536 := by omega
    have y0 : w4.cell? ⟨w.heap.size, 0, none⟩ = some (.int .i64 s0) := HY.out.cell 0
    have y2 : w4.cell? ⟨w.heap.size, 2, none⟩ = some (.int .i64 s2) := HY.out.cell 2
    have y3 : w4.cell? ⟨w.heap.size, 3, none⟩ = some (.int .u8 s3) := HY.out.cell 3
    have y4 : w4.cell? ⟨w.heap.size, 4, none⟩ = some (.int .u16 s4) := HY.out.cell 4
    have y5 : w4.cell? ⟨w.heap.size, 5, none⟩ = some (.int .i64 s5) := HY.out.cell 5
    have y6 : w4.cell? ⟨w.heap.size, 6, none⟩ = some (.int .i64 s6) := HY.out.cell 6
    have y7 : w4.cell? ⟨w.heap.size, 7, none⟩ = some (.slice tA tn tc) := HY.out.cell 7
    have y9 : w4.cell? ⟨w.heap.size, 9, none⟩ = some (.int .u16 s7) := HY.out.cell 9
    go_wp2_with fail
    refine (appJ_any (Also (Also S w.heap.size) w2.heap.size) _ _ _ _ s0 s6 w4 HO.out HS.out (by omega)).mono ?_
    rintro e v0 ⟨A5, c5, rfl, o5, k5⟩
    have HY := Lib.hid (HY.out.kp k5 (.inl (.inr rfl)))
    have HS := Lib.hid (k5.lt HS.out)
    have HK := Lib.hid (HK.out.trans k5)
    have HO := Lib.hid o5
    clear y0 y2 y3 y4 y5 y6 y7 y9
    clear o5 k5
    have y0 : v0.cell? ⟨w.heap.size, 0, none⟩ = some (.int .i64 s0) := HY.out.cell 0
    have y2 : v0.cell? ⟨w.heap.size, 2, none⟩ = some (.int .i64 s2) := HY.out.cell 2
    have y3 : v0.cell? ⟨w.heap.size, 3, none⟩ = some (.int .u8 s3) := HY.out.cell 3
    have y4 : v0.cell? ⟨w.heap.size, 4, none⟩ = some (.int .u16 s4) := HY.out.cell 4
    have y5 : v0.cell? ⟨w.heap.size, 5, none⟩ = some (.int .i64 s5) := HY.out.cell 5
    have y6 : v0.cell? ⟨w.heap.size, 6, none⟩ = some (.int .i64 s6) := HY.out.cell 6
    have y7 : v0.cell? ⟨w.heap.size, 7, none⟩ = some (.slice tA tn tc) := HY.out.cell 7
    have y9 : v0.cell? ⟨w.heap.size, 9, none⟩ = some (.int .u16 s7) := HY.out.cell 9
    go_wp2_with fail
    refine (appW_any (Also (Also S w.heap.size) w2.heap.size) _ _ _ _ cw v0 HO.out HS.out (by omega) (by omega) (by omega)).mono ?_
    rintro e v1 ⟨A5, c5, rfl, o5, k5⟩
    have HY := Lib.hid (HY.out.kp k5 (.inl (.inr rfl)))
    have HS := Lib.hid (k5.lt HS.out)
    have HK := Lib.hid (HK.out.trans k5)
    have HO := Lib.hid o5
    clear y0 y2 y3 y4 y5 y6 y7 y9
    clear o5 k5
    have y0 : v1.cell? ⟨w.heap.size, 0, none⟩ = some (.int .i64 s0) := HY.out.cell 0
    have y2 : v1.cell? ⟨w.heap.size, 2, none⟩ = some (.int .i64 s2) := HY.out.cell 2
    have y3 : v1.cell? ⟨w.heap.size, 3, none⟩ = some (.int .u8 s3) := HY.out.cell 3
    have y4 : v1.cell? ⟨w.heap.size, 4, none⟩ = some (.int .u16 s4) := HY.out.cell 4
    have y5 : v1.cell? ⟨w.heap.size, 5, none⟩ = some (.int .i64 s5) := HY.out.cell 5
    have y6 : v1.cell? ⟨w.heap.size, 6, none⟩ = some (.int .i64 s6) := HY.out.cell 6
    have y7 : v1.cell? ⟨w.heap.size, 7, none⟩ = some (.slice tA tn tc) := HY.out.cell 7
    have y9 : v1.cell? ⟨w.heap.size, 9, none⟩ = some (.int .u16 s7) := HY.out.cell 9
    go_wp2_with ((with_reducible refine wpList_ldI' rfl (.tmp 3) rfl HY.out ?_ ?_ ?_); exact rfl; exact rfl)
    refine (appR_any (Also (Also S w.heap.size) w2.heap.size) _ _ _ B _ ⟨⟨s0, s1, s2, s3, s4, s5, s6, s7⟩, tA, tn, tc, mA, mn, mc⟩ ⟨⟨s0, s1, s2, s3, s4, s5, s6, s7⟩, tab, mat⟩ v1 HO.out HS.out (HIR.out _ HK.out) HBS.out (by have := HK.out.size; omega) ht (by omega)).mono ?_
    rintro e v2 ⟨A5, N5, c5, rfl, o5, k5⟩
    have HY := Lib.hid (HY.out.kp k5 (.inl (.inr rfl)))
    have HS := Lib.hid (k5.lt HS.out)
    have HK := Lib.hid (HK.out.trans k5)
    have HO := Lib.hid o5
    clear y0 y2 y3 y4 y5 y6 y7 y9
    clear o5 k5
    go_wp2_with fail
    go_returns
    exact ⟨_, _, _, rfl, by have := HO.out.less (S' := S) (fun q hq => .inl (.inl hq)); rw [HCW.out] at this; simpa [List.append_assoc, bodyB] using this, HK0.out.trans (HK.out.mono (fun q hq => .inl (.inl hq)))⟩
  · clear HI
    have y0 : w4.cell? ⟨w.heap.size, 0, none⟩ = some (.int .i64 s0) := HY.out.cell 0
    have y2 : w4.cell? ⟨w.heap.size, 2, none⟩ = some (.int .i64 s2) := HY.out.cell 2
    have y3 : w4.cell? ⟨w.heap.size, 3, none⟩ = some (.int .u8 s3) := HY.out.cell 3
    have y4 : w4.cell? ⟨w.heap.size, 4, none⟩ = some (.int .u16 s4) := HY.out.cell 4
    have y5 : w4.cell? ⟨w.heap.size, 5, none⟩ = some (.int .i64 s5) := HY.out.cell 5
    have y6 : w4.cell? ⟨w.heap.size, 6, none⟩ = some (.int .i64 s6) := HY.out.cell 6
    have y7 : w4.cell? ⟨w.heap.size, 7, none⟩ = some (.slice tA tn tc) := HY.out.cell 7
    have y9 : w4.cell? ⟨w.heap.size, 9, none⟩ = some (.int .u16 s7) := HY.out.cell 9
    go_wp2_with fail
    refine (appW_any (Also (Also S w.heap.size) w2.heap.size) _ _ _ _ (s5 % 65536) w4 HO.out HS.out (by omega) (by omega) (by omega)).mono ?_
    rintro e v0 ⟨A5, c5, rfl, o5, k5⟩
    have HY := Lib.hid (HY.out.kp k5 (.inl (.inr rfl)))
    have HS := Lib.hid (k5.lt HS.out)
    have HK := Lib.hid (HK.out.trans k5)
    have HO := Lib.hid o5
    clear y0 y2 y3 y4 y5 y6 y7 y9
    clear o5 k5
    go_wp2_with fail
    go_returns
    exact ⟨_, _, _, rfl, by have := HO.out.less (S' := S) (fun q hq => .inl (.inl hq)); simpa [List.append_assoc, bodyB] using this, HK0.out.trans (HK.out.mono (fun q hq => .inl (.inl hq)))⟩
  · clear HI
    have y0 : w4.cell? ⟨w.heap.size, 0, none⟩ = some (.int .i64 s0) := HY.out.cell 0
    have y2 : w4.cell? ⟨w.heap.size, 2, none⟩ = some (.int .i64 s2) := HY.out.cell 2
    have y3 : w4.cell? ⟨w.heap.size, 3, none⟩ = some (.int .u8 s3) := HY.out.cell 3
    have y4 : w4.cell? ⟨w.heap.size, 4, none⟩ = some (.int .u16 s4) := HY.out.cell 4
    have y5 : w4.cell? ⟨w.heap.size, 5, none⟩ = some (.int .i64 s5) := HY.out.cell 5
    have y6 : w4.cell? ⟨w.heap.size, 6, none⟩ = some (.int .i64 s6) := HY.out.cell 6
    have y7 : w4.cell? ⟨w.heap.size, 7, none⟩ = some (.slice tA tn tc) := HY.out.cell 7
    have y9 : w4.cell? ⟨w.heap.size, 9, none⟩ = some (.int .u16 s7) := HY.out.cell 9
    go_wp2_with fail
    refine (appB_any (Also (Also S w.heap.size) w2.heap.size) _ _ _ _ (s2 % 256) w4 HO.out HS.out (by omega) (by omega) (by omega)).mono ?_
    rintro e v0 ⟨A5, c5, rfl, o5, k5⟩
    have HY := Lib.hid (HY.out.kp k5 (.inl (.inr rfl)))
    have HS := Lib.hid (k5.lt HS.out)
    have HK := Lib.hid (HK.out.trans k5)
    have HO := Lib.hid o5
    clear y0 y2 y3 y4 y5 y6 y7 y9
    clear o5 k5
    have y0 : v0.cell? ⟨w.heap.size, 0, none⟩ = some (.int .i64 s0) := HY.out.cell 0
    have y2 : v0.cell? ⟨w.heap.size, 2, none⟩ = some (.int .i64 s2) := HY.out.cell 2
    have y3 : v0.cell? ⟨w.heap.size, 3, none⟩ = some (.int .u8 s3) := HY.out.cell 3
    have y4 : v0.cell? ⟨w.heap.size, 4, none⟩ = some (.int .u16 s4) := HY.out.cell 4
    have y5 : v0.cell? ⟨w.heap.size, 5, none⟩ = some (.int .i64 s5) := HY.out.cell 5
    have y6 : v0.cell? ⟨w.heap.size, 6, none⟩ = some (.int .i64 s6) := HY.out.cell 6
    have y7 : v0.cell? ⟨w.heap.size, 7, none⟩ = some (.slice tA tn tc) := HY.out.cell 7
    have y9 : v0.cell? ⟨w.heap.size, 9, none⟩ = some (.int .u16 s7) := HY.out.cell 9
    go_wp2_with fail
    refine (appW_any (Also (Also S w.heap.size) w2.heap.size) _ _ _ _ (s5 % 65536) v0 HO.out HS.out (by omega) (by omega) (by omega)).mono ?_
    rintro e v1 ⟨A5, c5, rfl, o5, k5⟩
    have HY := Lib.hid (HY.out.kp k5 (.inl (.inr rfl)))
    have HS := Lib.hid (k5.lt HS.out)
    have HK := Lib.hid (HK.out.trans k5)
    have HO := Lib.hid o5
    clear y0 y2 y3 y4 y5 y6 y7 y9
    clear o5 k5
    have y0 : v1.cell? ⟨w.heap.size, 0, none⟩ = some (.int .i64 s0) := HY.out.cell 0
    have y2 : v1.cell? ⟨w.heap.size, 2, none⟩ = some (.int .i64 s2) := HY.out.cell 2
    have y3 : v1.cell? ⟨w.heap.size, 3, none⟩ = some (.int .u8 s3) := HY.out.cell 3
    have y4 : v1.cell? ⟨w.heap.size, 4, none⟩ = some (.int .u16 s4) := HY.out.cell 4
    have y5 : v1.cell? ⟨w.heap.size, 5, none⟩ = some (.int .i64 s5) := HY.out.cell 5
    have y6 : v1.cell? ⟨w.heap.size, 6, none⟩ = some (.int .i64 s6) := HY.out.cell 6
    have y7 : v1.cell? ⟨w.heap.size, 7, none⟩ = some (.slice tA tn tc) := HY.out.cell 7
    have y9 : v1.cell? ⟨w.heap.size, 9, none⟩ = some (.int .u16 s7) := HY.out.cell 9
    go_wp2_with fail
    refine (appB_any (Also (Also S w.heap.size) w2.heap.size) _ _ _ _ s3 v1 HO.out HS.out (by omega) (by omega) (by omega)).mono ?_
    rintro e v2 ⟨A5, c5, rfl, o5, k5⟩
    have HY := Lib.hid (HY.out.kp k5 (.inl (.inr rfl)))
    have HS := Lib.hid (k5.lt HS.out)
    have HK := Lib.hid (HK.out.trans k5)
    have HO := Lib.hid o5
    clear y0 y2 y3 y4 y5 y6 y7 y9
    clear o5 k5
    go_wp2_with fail
    go_returns
    exact ⟨_, _, _, rfl, by have := HO.out.less (S' := S) (fun q hq => .inl (.inl hq)); simpa [List.append_assoc, bodyB] using this, HK0.out.trans (HK.out.mono (fun q hq => .inl (.inl hq)))⟩
  · clear HI
    have y0 : w4.cell? ⟨w.heap.size, 0, none⟩ = some (.int .i64 s0) := HY.out.cell 0
    have y2 : w4.cell? ⟨w.heap.size, 2, none⟩ = some (.int .i64 s2) := HY.out.cell 2
    have y3 : w4.cell? ⟨w.heap.size, 3, none⟩ = some (.int .u8 s3) := HY.out.cell 3
    have y4 : w4.cell? ⟨w.heap.size, 4, none⟩ = some (.int .u16 s4) := HY.out.cell 4
    have y5 : w4.cell? ⟨w.heap.size, 5, none⟩ = some (.int .i64 s5) := HY.out.cell 5
    have y6 : w4.cell? ⟨w.heap.size, 6, none⟩ = some (.int .i64 s6) := HY.out.cell 6
    have y7 : w4.cell? ⟨w.heap.size, 7, none⟩ = some (.slice tA tn tc) := HY.out.cell 7
    have y9 : w4.cell? ⟨w.heap.size, 9, none⟩ = some (.int .u16 s7) := HY.out.cell 9
    go_wp2_with fail
    refine (appB_any (Also (Also S w.heap.size) w2.heap.size) _ _ _ _ (s2 % 256) w4 HO.out HS.out (by omega) (by omega) (by omega)).mono ?_
    rintro e v0 ⟨A5, c5, rfl, o5, k5⟩
    have HY := Lib.hid (HY.out.kp k5 (.inl (.inr rfl)))
    have HS := Lib.hid (k5.lt HS.out)
    have HK := Lib.hid (HK.out.trans k5)
    have HO := Lib.hid o5
    clear y0 y2 y3 y4 y5 y6 y7 y9
    clear o5 k5
    go_wp2_with fail
    go_returns
    exact ⟨_, _, _, rfl, by have := HO.out.less (S' := S) (fun q hq => .inl (.inl hq)); simpa [List.append_assoc, bodyB] using this, HK0.out.trans (HK.out.mono (fun q hq => .inl (.inl hq)))⟩
  · clear HI
    have y0 : w4.cell? ⟨w.heap.size, 0, none⟩ = some (.int .i64 s0) := HY.out.cell 0
    have y2 : w4.cell? ⟨w.heap.size, 2, none⟩ = some (.int .i64 s2) := HY.out.cell 2
    have y3 : w4.cell? ⟨w.heap.size, 3, none⟩ = some (.int .u8 s3) := HY.out.cell 3
    have y4 : w4.cell? ⟨w.heap.size, 4, none⟩ = some (.int .u16 s4) := HY.out.cell 4
    have y5 : w4.cell? ⟨w.heap.size, 5, none⟩ = some (.int .i64 s5) := HY.out.cell 5
    have y6 : w4.cell? ⟨w.heap.size, 6, none⟩ = some (.int .i64 s6) := HY.out.cell 6
    have y7 : w4.cell? ⟨w.heap.size, 7, none⟩ = some (.slice tA tn tc) := HY.out.cell 7
    have y9 : w4.cell? ⟨w.heap.size, 9, none⟩ = some (.int .u16 s7) := HY.out.cell 9
    go_wp2_with fail
    refine (appB_any (Also (Also S w.heap.size) w2.heap.size) _ _ _ _ (s2 % 256) w4 HO.out HS.out (by omega) (by omega) (by omega)).mono ?_
    rintro e v0 ⟨A5, c5, rfl, o5, k5⟩
    have HY := Lib.hid (HY.out.kp k5 (.inl (.inr rfl)))
    have HS := Lib.hid (k5.lt HS.out)
    have HK := Lib.hid (HK.out.trans k5)
    have HO := Lib.hid o5
    clear y0 y2 y3 y4 y5 y6 y7 y9
    clear o5 k5
    have y0 : v0.cell? ⟨w.heap.size, 0, none⟩ = some (.int .i64 s0) := HY.out.cell 0
    have y2 : v0.cell? ⟨w.heap.size, 2, none⟩ = some (.int .i64 s2) := HY.out.cell 2
    have y3 : v0.cell? ⟨w.heap.size, 3, none⟩ = some (.int .u8 s3) := HY.out.cell 3
    have y4 : v0.cell? ⟨w.heap.size, 4, none⟩ = some (.int .u16 s4) := HY.out.cell 4
    have y5 : v0.cell? ⟨w.heap.size, 5, none⟩ = some (.int .i64 s5) := HY.out.cell 5
    have y6 : v0.cell? ⟨w.heap.size, 6, none⟩ = some (.int .i64 s6) := HY.out.cell 6
    have y7 : v0.cell? ⟨w.heap.size, 7, none⟩ = some (.slice tA tn tc) := HY.out.cell 7
    have y9 : v0.cell? ⟨w.heap.size, 9, none⟩ = some (.int .u16 s7) := HY.out.cell 9
    go_wp2_with fail
    refine (appW_any (Also (Also S w.heap.size) w2.heap.size) _ _ _ _ (s5 % 65536) v0 HO.out HS.out (by omega) (by omega) (by omega)).mono ?_
    rintro e v1 ⟨A5, c5, rfl, o5, k5⟩
    have HY := Lib.hid (HY.out.kp k5 (.inl (.inr rfl)))
    have HS := Lib.hid (k5.lt HS.out)
    have HK := Lib.hid (HK.out.trans k5)
    have HO := Lib.hid o5
    clear y0 y2 y3 y4 y5 y6 y7 y9
    clear o5 k5
    go_wp2_with fail
    go_returns
    exact ⟨_, _, _, rfl, by have := HO.out.less (S' := S) (fun q hq => .inl (.inl hq)); simpa [List.append_assoc, bodyB] using this, HK0.out.trans (HK.out.mono (fun q hq => .inl (.inl hq)))⟩
end Go.Proofs.YtolifmpkillglaaDoor
