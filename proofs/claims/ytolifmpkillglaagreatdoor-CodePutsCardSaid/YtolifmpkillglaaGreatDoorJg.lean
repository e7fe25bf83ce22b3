import Derived.Test.YtolifmpkillglaaGreatDoorDc
import Derived.Test.YtolifmpkillglaaGreatDoorFa
import Derived.IntWalk
import Derived.Test.YtolifmpkillglaaGreatDoorHd
import Derived.Test.YtolifmpkillglaaGreatDoorHb
import Derived.Test.YtolifmpkillglaaGreatDoorGe
import Derived.Laws.Rows
import Derived.Test.YtolifmpkillglaaGreatDoorIs
import Derived.Test.YtolifmpkillglaaGreatDoorIu
import Derived.Test.YtolifmpkillglaaGreatDoorIq
import Derived.Test.YtolifmpkillglaaGreatDoorJf
set_option linter.unusedVariables false
set_option maxRecDepth 100000
namespace Go.Proofs.YtolifmpkillglaaGreatDoor
open Go.RowKit
/-! Bytes, words and jumps behind others. -/
theorem appN_any (S : Nat → Prop) (A : Option Addr) (n c s : Nat) (l : List Int) (N : Int) (w : World) (O : OS w S A n c l) (hS : ∀ k, S k → k < w.heap.size) (n0 : 0 ≤ N) (hN : okN N s) (hs : s = 1 ∨ s = 2) (hn : n ≤ 300000) :
    Calls Tryz.prog 44 #[.slice A n c, .int .u32 N, .int .i64 s] w fun e w' => ∃ A' c', e = .returned (.slice A' (n + s) c') ∧ OS w' S A' (n + s) c' (l ++ dig N s) ∧ Kp S w w' := by
  have HP := Lib.hid (put_ok N s w n0 hN)
  have HO := Lib.hid O
  clear O
  go_enter Tryz.func44, Tryz.ntmps44
  go_wp2_with fail
  refine HP.out.mono ?_
  rintro e w1 ⟨A1, c1, rfl, o1, b1⟩
  have HO := Lib.hid (HO.out.below b1)
  have HD := Lib.hid o1
  have HK := Lib.hid (Kp.of_below b1 hS)
  have hz := b1.size
  clear o1 b1
  go_wp2_with (at_builtin; refine wpList_appS rfl _ _ rfl S A n c l rfl HO.out _ A1 s c1 (dig N s) rfl HD.out.rd (n + s) rfl (l ++ dig N s) rfl (by omega) (fun k hk => Nat.lt_of_lt_of_le (hS k hk) hz) ?_; intro A2 c2 w2 ho2 hb2)
  go_returns
  exact ⟨A2, c2, rfl, ho2, HK.out.trans hb2⟩
def wd2 (x : Int) : List Int := [x / 256 % 256, x % 256]
theorem appB_any (S : Nat → Prop) (A : Option Addr) (n c : Nat) (l : List Int) (x : Int) (w : World) (O : OS w S A n c l) (hS : ∀ k, S k → k < w.heap.size) (x0 : 0 ≤ x) (x1 : x < 256) (hn : n ≤ 300000) :
    Calls Tryz.prog 22 #[.slice A n c, .int .u8 x] w fun e w' => ∃ A' c', e = .returned (.slice A' (n + 1) c') ∧ OS w' S A' (n + 1) c' (l ++ [x]) ∧ Kp S w w' := by
  have HP := Lib.hid (appN_any S A n c 1 l x w O hS x0 (.inl ⟨rfl, by omega⟩) (.inl rfl) hn)
  have e : dig x 1 = [x] := by show [x % 256] = [x]; rw [Int.emod_eq_of_lt x0 x1]
  rw [e] at HP
  have hm : x % 4294967296 = x := Int.emod_eq_of_lt x0 (by omega)
  clear O e
  go_enter Tryz.func22, Tryz.ntmps22
  go_wp2_with fail
  refine HP.out.mono ?_
  rintro e w1 ⟨A1, c1, rfl, o1, k1⟩
  have HO := Lib.hid o1
  have HK := Lib.hid k1
  clear o1 k1
  go_wp2_with fail
  go_returns
  exact ⟨A1, c1, rfl, HO.out, HK.out⟩
theorem appW_any (S : Nat → Prop) (A : Option Addr) (n c : Nat) (l : List Int) (x : Int) (w : World) (O : OS w S A n c l) (hS : ∀ k, S k → k < w.heap.size) (x0 : 0 ≤ x) (x1 : x < 65536) (hn : n ≤ 300000) :
    Calls Tryz.prog 23 #[.slice A n c, .int .u16 x] w fun e w' => ∃ A' c', e = .returned (.slice A' (n + 2) c') ∧ OS w' S A' (n + 2) c' (l ++ wd2 x) ∧ Kp S w w' := by
  have HP := Lib.hid (appN_any S A n c 2 l x w O hS x0 (.inr (.inl ⟨rfl, by omega⟩)) (.inr rfl) hn)
  have e : dig x 2 = wd2 x := rfl
  rw [e] at HP
  have hm : x % 4294967296 = x := Int.emod_eq_of_lt x0 (by omega)
  clear O e
  generalize wd2 x = d at HP ⊢
  go_enter Tryz.func23, Tryz.ntmps23
  go_wp2_with fail
  refine HP.out.mono ?_
  rintro e w1 ⟨A1, c1, rfl, o1, k1⟩
  have HO := Lib.hid o1
  have HK := Lib.hid k1
  clear o1 k1
  go_wp2_with fail
  go_returns
  exact ⟨A1, c1, rfl, HO.out, HK.out⟩
/-- How far it is, as a word. -/
def jmpW (f t : Int) : Int := (t - f) % 65536
theorem jmpW_rg (f t : Int) : 0 ≤ jmpW f t ∧ jmpW f t < 65536 := by unfold jmpW; omega
theorem appJ_any (S : Nat → Prop) (A : Option Addr) (n c : Nat) (l : List Int) (f t : Int) (w : World) (O : OS w S A n c l) (hS : ∀ k, S k → k < w.heap.size) (hn : n ≤ 300000) :
    Calls Tryz.prog 24 #[.slice A n c, .int .i64 f, .int .i64 t] w fun e w' => ∃ A' c', e = .returned (.slice A' (n + 2) c') ∧ OS w' S A' (n + 2) c' (l ++ wd2 (jmpW f t)) ∧ Kp S w w' := by
  have hj := jmpW_rg f t
  have HP := Lib.hid (appW_any S A n c l (jmpW f t) w O hS hj.1 hj.2 hn)
  have e1 : (t % 65536 - f % 65536) % 65536 = jmpW f t := by unfold jmpW; omega
  have hw : ∀ x : Int, IntKind.u16.wrap x = x % 65536 := fun x => by simp [IntKind.wrap, IntKind.bits, IntKind.signed]
  have e2 : IntKind.u16.wrap (IntKind.u16.wrap t - IntKind.u16.wrap f) = jmpW f t := by rw [hw, hw, hw, e1]
  clear O hw
  generalize jmpW f t = j at HP hj e1 e2 ⊢
  go_enter Tryz.func24, Tryz.ntmps24
  go_wp2_with fail
  refine HP.out.mono ?_
  rintro e w1 ⟨A1, c1, rfl, o1, k1⟩
  have HO := Lib.hid o1
  have HK := Lib.hid k1
  clear o1 k1
  go_wp2_with fail
  go_returns
  exact ⟨A1, c1, rfl, HO.out, HK.out⟩
end Go.Proofs.YtolifmpkillglaaGreatDoor

set_option linter.unusedVariables false
set_option maxRecDepth 100000
namespace Go.Proofs.YtolifmpkillglaaGreatDoor
open Go.RowKit
/-! The rows of a switch, put. -/
def rowsL (f : Int) (T M : List Int) : Nat → List Int
  | 0 => []
  | k + 1 => rowsL f T M k ++ ((if k < M.length then wd2 (M.getD k 0) else []) ++ wd2 (jmpW f (T.getD k 0)))
theorem rowsL_len (f : Int) (T M : List Int) : ∀ k, (rowsL f T M k).length ≤ 4 * k
  | 0 => Nat.le_refl _
  | k + 1 => by
    have := rowsL_len f T M k
    unfold rowsL
    rw [List.length_append, List.length_append]
    split <;> simp [wd2] <;> omega
set_option maxHeartbeats 2000000 in
theorem appR_any (S : Nat → Prop) (A : Option Addr) (n c B : Nat) (l : List Int) (r : RI) (x : Ins) (w : World) (O : OS w S A n c l) (hS : ∀ k, S k → k < w.heap.size) (h : InsR w B r x) (hB : ∀ k, k < B → S k) (hBw : B ≤ w.heap.size) (ht : r.tn ≤ 70000) (hn : n ≤ 10000) :
    Calls Tryz.prog 25 #[.slice A n c, r.val] w fun e w' => ∃ A' N c', e = .returned (.slice A' N c') ∧ OS w' S A' N c' (l ++ rowsL x.sc.at_ x.tab x.mat x.tab.length) ∧ Kp S w w' := by
  obtain ⟨hsc, ht1, hm1, hle, hle2⟩ := h
  obtain ⟨⟨s0, s1, s2, s3, s4, s5, s6, s7⟩, tA, tn, tc, mA, mn, mc⟩ := r
  obtain ⟨sc, tab, mat⟩ := x
  simp only at hsc
  subst hsc
  unfold RI.val
  simp only at ht1 hm1 hle hle2 ht ⊢
  have hlt := ht1.len
  have hlm := hm1.len
  have hmr := hm1.rg
  have HY := Lib.hid (Blk.new w #[.int .i64 s0, .int .u8 s1, .int .i64 s2, .int .u8 s3, .int .u16 s4, .int .i64 s5, .int .i64 s6, .slice tA tn tc, .slice mA mn mc, .int .u16 s7] 28)
  have HO := Lib.hid (O.also (.cells #[.int .i64 s0, .int .u8 s1, .int .i64 s2, .int .u8 s3, .int .u16 s4, .int .i64 s5, .int .i64 s6, .slice tA tn tc, .slice mA mn mc, .int .u16 s7] 28))
  have HS := Lib.hid (also_lt hS (.cells #[.int .i64 s0, .int .u8 s1, .int .i64 s2, .int .u8 s3, .int .u16 s4, .int .i64 s5, .int .i64 s6, .slice tA tn tc, .slice mA mn mc, .int .u16 s7] 28))
  have HT := Lib.hid (ht1.alloc hBw (.cells #[.int .i64 s0, .int .u8 s1, .int .i64 s2, .int .u8 s3, .int .u16 s4, .int .i64 s5, .int .i64 s6, .slice tA tn tc, .slice mA mn mc, .int .u16 s7] 28))
  have HM := Lib.hid (hm1.alloc hBw (.cells #[.int .i64 s0, .int .u8 s1, .int .i64 s2, .int .u8 s3, .int .u16 s4, .int .i64 s5, .int .i64 s6, .slice tA tn tc, .slice mA mn mc, .int .u16 s7] 28))
  have HK := Lib.hid ((Kp.refl S w).alloc hS (.cells #[.int .i64 s0, .int .u8 s1, .int .i64 s2, .int .u8 s3, .int .u16 s4, .int .i64 s5, .int .i64 s6, .slice tA tn tc, .slice mA mn mc, .int .u16 s7] 28))
  have hA : ∀ k, Also S w.heap.size k ↔ S k ∨ k = w.heap.size := fun k => Iff.rfl
  have HBS := Lib.hid hB
  have HRL : Hid (∀ k, rowsL s0 tab mat (k + 1) = rowsL s0 tab mat k ++ ((if k < mat.length then wd2 (mat.getD k 0) else []) ++ wd2 (jmpW s0 (tab.getD k 0)))) := Lib.hid (fun k => rfl)
  have HRN := Lib.hid (rowsL_len s0 tab mat)
  have R0 : rowsL s0 tab mat 0 = [] := rfl
  clear O ht1 hm1
  rw [hlt]
  generalize hrr : rowsL s0 tab mat = RR at HRL HRN R0 ⊢
  clear hrr
  go_enter Tryz.func25, Tryz.ntmps25
  go_upto_region 1 with (fail)
  generalize w.alloc (.cells #[.int .i64 s0, .int .u8 s1, .int .i64 s2, .int .u8 s3, .int .u16 s4, .int .i64 s5, .int .i64 s6, .slice tA tn tc, .slice mA mn mc, .int .u16 s7] 28) = w1 at HY HO HS HT HM HK ⊢
  have y7 : w1.cell? ⟨w.heap.size, 7, none⟩ = some (.slice tA tn tc) := HY.out.cell 7
  go_wp2_with fail
  go_loopw [0, 10] (fun s i wr => ∃ (k : Nat) (A' : Option Addr) (N c' : Nat), s = .slice A' N c' ∧ k ≤ tn ∧ i = .int .i64 k ∧ OS wr (Also S w.heap.size) A' N c' (l ++ RR k) ∧ Kp (Also S w.heap.size) w1 wr) (fun _ i _ => tn - (intOf i).toNat)
  case atStart => exact ⟨0, A, n, c, rfl, Nat.zero_le _, rfl, by rw [R0, List.append_nil]; exact HO.out, Kp.refl _ _⟩
  case round =>
    obtain ⟨k, A', N, c', rfl, hk, rfl, O, K⟩ := hrel
    have i0 : (0 : Int) ≤ (k : Int) := by omega
    have hNb : N ≤ 290000 := by
      have h3 : N = n + (RR k).length := by rw [← O.len, List.length_append, HO.out.len]
      have h4 := HRN.out k
      omega
    have hsw := K.size
    by_cases hlt2 : (k : Int) < (tn : Int)
    · have Tw := HT.out.kp K (fun q hq => .inl (HBS.out q hq))
      have Mw := HM.out.kp K (fun q hq => .inl (HBS.out q hq))
      have Yw := HY.out.kp K (.inr rfl)
      obtain ⟨b, o, hA1, _, g0⟩ := Tw.in1 k (by omega)
      have y8 : wr.cell? ⟨w.heap.size, 8, none⟩ = some (.slice mA mn mc) := Yw.cell 8
      have y0 : wr.cell? ⟨w.heap.size, 0, none⟩ = some (.int .i64 s0) := Yw.cell 0
      have hstep := HRL.out k
      have HSr := Lib.hid (K.lt HS.out)
      have HOr := Lib.hid O
      have HKr := Lib.hid K
      have HYr := Lib.hid Yw
      subst hA1
      clear O K Tw Yw
      obtain ⟨p, hp⟩ : ∃ p, tab.getD k 0 = p := ⟨_, rfl⟩
      rw [hp] at g0 hstep
      clear hp
      by_cases hm2 : (k : Int) < (mn : Int)
      · obtain ⟨b2, o2, hA2, _, g1⟩ := Mw.wo1 k (by omega)
        have hmk : 0 ≤ mat.getD k 0 ∧ mat.getD k 0 < 65536 := allok_getD hmr k
        rw [if_pos (by omega)] at hstep
        obtain ⟨mm, hmm⟩ : ∃ p, mat.getD k 0 = p := ⟨_, rfl⟩
        rw [hmm] at hstep g1 hmk
        have HST := Lib.hid hstep
        subst hA2
        clear Mw hmm hstep
        have HW1 := Lib.hid (appW_any (Also S w.heap.size) A' N c' (l ++ RR k) mm wr HOr.out HSr.out hmk.1 hmk.2 (by omega))
        go_wp2_with fail
        refine HW1.out.mono ?_
        rintro e w2 ⟨A2, c2, rfl, o2', k2⟩
        have y0 : w2.cell? ⟨w.heap.size, 0, none⟩ = some (.int .i64 s0) := (HYr.out.kp k2 (.inr rfl)).cell 0
        have HJ := Lib.hid (appJ_any (Also S w.heap.size) A2 (N + 2) c2 _ s0 p w2 o2' (k2.lt HSr.out) (by omega))
        have HK2 := Lib.hid (HKr.out.trans k2)
        clear o2' k2 g0 g1 y8
        go_wp2_with fail
        refine HJ.out.mono ?_
        rintro e w3 ⟨A3, c3, rfl, o3, k3⟩
        have HO3 := Lib.hid o3
        have HK3 := Lib.hid (HK2.out.trans k3)
        clear o3 k3
        go_wp2_with fail
        go_roundw
        case rel => exact ⟨k + 1, A3, _, c3, rfl, by omega, by go_num, by rw [HST.out, ← List.append_assoc, ← List.append_assoc]; exact HO3.out, HK3.out⟩
        case measure => simp [intOf]; omega
      · rw [if_neg (by omega), List.nil_append] at hstep
        have HST := Lib.hid hstep
        have HJ := Lib.hid (appJ_any (Also S w.heap.size) A' N c' _ s0 p wr HOr.out HSr.out (by omega))
        clear Mw hstep
        go_wp2_with fail
        refine HJ.out.mono ?_
        rintro e w3 ⟨A3, c3, rfl, o3, k3⟩
        have HO3 := Lib.hid o3
        have HK3 := Lib.hid (HKr.out.trans k3)
        clear o3 k3
        go_wp2_with fail
        go_roundw
        case rel => exact ⟨k + 1, A3, _, c3, rfl, by omega, by go_num, by rw [HST.out, ← List.append_assoc]; exact HO3.out, HK3.out⟩
        case measure => simp [intOf]; omega
    · obtain rfl : k = tn := by omega
      have HO2 := Lib.hid (O.less (S' := S) (fun q hq => .inl hq))
      have HK2 := Lib.hid (HK.out.trans (K.mono (S' := S) (fun q hq => .inl hq)))
      clear O K
      go_wp2_with fail
      go_returns
      exact ⟨A', N, c', rfl, HO2.out, HK2.out⟩
end Go.Proofs.YtolifmpkillglaaGreatDoor

set_option linter.unusedVariables false
set_option maxRecDepth 100000
namespace Go.Proofs.YtolifmpkillglaaGreatDoor
open Go.RowKit
/-! The bytes of an instruction, put. -/
def bodyB (k : Nat) (x : Ins) : List Int := match k with
  | 1 => [x.sc.n % 256]
  | 2 => wd2 x.sc.n
  | 3 => [x.sc.a % 256]
  | 4 => [x.sc.a % 256] ++ [x.sc.b]
  | 5 => wd2 (jmpW x.sc.at_ x.sc.jump)
  | 6 => wd2 (jmpW x.sc.at_ x.sc.jump) ++ (wd2 x.sc.low ++ (wd2 ((x.sc.low + x.tab.length - 1) % 65536) ++ rowsL x.sc.at_ x.tab x.mat x.tab.length))
  | 7 => wd2 (jmpW x.sc.at_ x.sc.jump) ++ (wd2 ((x.tab.length : Int) % 65536) ++ rowsL x.sc.at_ x.tab x.mat x.tab.length)
  | 8 => wd2 (x.sc.pool % 65536)
  | 9 => [x.sc.a % 256] ++ (wd2 (x.sc.pool % 65536) ++ [x.sc.b])
  | 10 => [x.sc.a % 256]
  | 11 => [x.sc.a % 256] ++ wd2 (x.sc.pool % 65536)
  | _ => []
theorem inst_sz' : (Tryz.prog.info? 28).map (·.size) = some 10 := by kernel_rfl
theorem wpList_ldI' {w : World} {ops : Array Oper} {rest : List Oper} {o : Oper} {a : Act} {Q : Exit → Act → World → Prop} {h : Nat} {cells : Array Value} (hgd : o.guard = none) (x : Operand) (ho : o.op = .load 28 x)
    (X : Blk w h cells 28) (hc : cells.size = 10) (hx : a.eval x = .pointer (some ⟨h, 0, none⟩)) (hK : wpList Tryz.prog ops Q rest (a.put o.dst (.agg cells)) w) : wpList Tryz.prog ops Q (o :: rest) a w :=
  wpList_load_row hgd _ x ho h hx _ cells (0, 0) _ X Tryz.underlying28 rfl (by rw [inst_sz', hc]) hK
theorem kI_lt : ∀ n : Nat, n < 256 → (ofC (n : Int)).1.imm = (((ofC (n : Int)).1.imm).toNat : Int) ∧ ((ofC (n : Int)).1.imm).toNat < 12 := by decide +kernel
set_option maxHeartbeats 8000000 in
theorem appI_any (S : Nat → Prop) (A : Option Addr) (n c B : Nat) (l : List Int) (r : RI) (x : Ins) (w : World) (T : Tab w) (O : OS w S A n c l) (hS : ∀ k, S k → k < w.heap.size) (h : InsR w B r x) (hok : x.sc.ok) (hB : ∀ k, k < B → S k) (hBw : B ≤ w.heap.size) (ht : r.tn ≤ 70000) (hn : n ≤ 5000) :
    Calls Tryz.prog 11 #[.slice A n c, r.val] w fun e w' => ∃ A' N c', e = .returned (.slice A' N c') ∧ OS w' S A' N c' (l ++ (x.sc.op :: bodyB ((ofC x.sc.op).1.imm).toNat x)) ∧ Kp S w w' := by
  have h' := h
  obtain ⟨hsc, ht1, hm1, hle, hle2⟩ := h
  obtain ⟨⟨s0, s1, s2, s3, s4, s5, s6, s7⟩, tA, tn, tc, mA, mn, mc⟩ := r
  obtain ⟨sc, tab, mat⟩ := x
  simp only at hsc
  subst hsc
  unfold RI.val
  simp only at ht1 hm1 hle hle2 ht hok ⊢
  obtain ⟨⟨ok1, ok2⟩, ⟨ok3, ok4⟩, ⟨ok5, ok6⟩, ⟨ok7, ok8⟩⟩ := hok
  simp only at ok1 ok2 ok3 ok4 ok5 ok6 ok7 ok8
  have hlt := ht1.len
  have HOF := Lib.hid (of_any s1 ok1 ok2)
  obtain ⟨k, hk, hk12⟩ : ∃ k : Nat, (ofC s1).1.imm = k ∧ k < 12 := by
    obtain ⟨q, rfl⟩ : ∃ q : Nat, s1 = q := ⟨s1.toNat, by omega⟩
    have := kI_lt q (by omega)
    exact ⟨_, this.1, this.2⟩
  have hkn : ((ofC s1).1.imm).toNat = k := by rw [hk]; rfl
  rw [hkn]
  rcases hof : ofC s1 with ⟨⟨x0, x1, x2, x3, x4, x5, x6⟩, er⟩
  rw [hof] at HOF hk
  unfold OfSaid at HOF
  simp only [Inf.val] at HOF
  simp only at hk
  subst hk
  clear hof hkn
  have HT := Lib.hid (T.alloc (.cells #[.int .i64 s0, .int .u8 s1, .int .i64 s2, .int .u8 s3, .int .u16 s4, .int .i64 s5, .int .i64 s6, .slice tA tn tc, .slice mA mn mc, .int .u16 s7] 28))
  have HY := Lib.hid (Blk.new w #[.int .i64 s0, .int .u8 s1, .int .i64 s2, .int .u8 s3, .int .u16 s4, .int .i64 s5, .int .i64 s6, .slice tA tn tc, .slice mA mn mc, .int .u16 s7] 28)
  have HO := Lib.hid (O.also (.cells #[.int .i64 s0, .int .u8 s1, .int .i64 s2, .int .u8 s3, .int .u16 s4, .int .i64 s5, .int .i64 s6, .slice tA tn tc, .slice mA mn mc, .int .u16 s7] 28))
  have HS := Lib.hid (also_lt hS (.cells #[.int .i64 s0, .int .u8 s1, .int .i64 s2, .int .u8 s3, .int .u16 s4, .int .i64 s5, .int .i64 s6, .slice tA tn tc, .slice mA mn mc, .int .u16 s7] 28))
  have HIR := Lib.hid h'
  have HBS0 := Lib.hid hB
  have hsw : w.heap.size < (w.alloc (.cells #[.int .i64 s0, .int .u8 s1, .int .i64 s2, .int .u8 s3, .int .u16 s4, .int .i64 s5, .int .i64 s6, .slice tA tn tc, .slice mA mn mc, .int .u16 s7] 28)).heap.size := by simp
  have HK1 : Hid (Below w.heap.size w (w.alloc (.cells #[.int .i64 s0, .int .u8 s1, .int .i64 s2, .int .u8 s3, .int .u16 s4, .int .i64 s5, .int .i64 s6, .slice tA tn tc, .slice mA mn mc, .int .u16 s7] 28))) := Lib.hid ((Below.refl _ _).alloc (Nat.le_refl _) _)
  clear T O h' ht1 hm1
  go_enter Tryz.func11, Tryz.ntmps11
  go_upto_region 1 with (fail)
  generalize w.alloc (.cells #[.int .i64 s0, .int .u8 s1, .int .i64 s2, .int .u8 s3, .int .u16 s4, .int .i64 s5, .int .i64 s6, .slice tA tn tc, .slice mA mn mc, .int .u16 s7] 28) = w1 at HT HY HO HS hsw HK1 ⊢
  have y1 : w1.cell? ⟨w.heap.size, 1, none⟩ = some (.int .u8 s1) := HY.out.cell 1
  go_wp2_with fail
  refine (HOF.out _ HT.out).mono ?_
  rintro e w2 ⟨rfl, b2⟩
  have hz2 := b2.size
  have HY := Lib.hid ((HY.out.below b2).alloc (.cells #[.int .u8 x0, .string ⟨x1.toArray⟩, .int .u8 k, .int .i64 x3, .int .i64 x4, .bool x5, .bool x6] 46))
  have HO := Lib.hid ((HO.out.below b2).also (.cells #[.int .u8 x0, .string ⟨x1.toArray⟩, .int .u8 k, .int .i64 x3, .int .i64 x4, .bool x5, .bool x6] 46))
  have HS := Lib.hid (also_lt (fun q hq => Nat.lt_of_lt_of_le (HS.out q hq) hz2) (.cells #[.int .u8 x0, .string ⟨x1.toArray⟩, .int .u8 k, .int .i64 x3, .int .i64 x4, .bool x5, .bool x6] 46))
  have HI := Lib.hid (Blk.new w2 #[.int .u8 x0, .string ⟨x1.toArray⟩, .int .u8 k, .int .i64 x3, .int .i64 x4, .bool x5, .bool x6] 46)
  have HK1 := Lib.hid ((HK1.out.trans (b2.mono (by omega))).alloc (by omega) (.cells #[.int .u8 x0, .string ⟨x1.toArray⟩, .int .u8 k, .int .i64 x3, .int .i64 x4, .bool x5, .bool x6] 46))
  clear b2 y1 HT
  go_upto_region 2 with (fail)
  generalize w2.alloc (.cells #[.int .u8 x0, .string ⟨x1.toArray⟩, .int .u8 k, .int .i64 x3, .int .i64 x4, .bool x5, .bool x6] 46) = w3 at HY HO HS HI HK1 ⊢
  have hz3 := HK1.out.size
  have HK0 := Lib.hid (Kp.of_below HK1.out hS)
  have HBS : Hid (∀ q, q < B → (Also (Also S w.heap.size) w2.heap.size) q) := Lib.hid (fun q hq => .inl (.inl (HBS0.out q hq)))
  have HIR : Hid (∀ W, Kp (Also (Also S w.heap.size) w2.heap.size) w3 W → InsR W B ⟨⟨s0, s1, s2, s3, s4, s5, s6, s7⟩, tA, tn, tc, mA, mn, mc⟩ ⟨⟨s0, s1, s2, s3, s4, s5, s6, s7⟩, tab, mat⟩) := Lib.hid (fun W hW => (HIR.out.below HK1.out hBw).keep fun p hp => hW.cell (HBS.out _ hp))
  have HK := Lib.hid (Kp.refl (Also (Also S w.heap.size) w2.heap.size) w3)
  have hw8 : ∀ z : Int, IntKind.u8.wrap z = z % 256 := fun z => by simp [IntKind.wrap, IntKind.bits, IntKind.signed]
  have hw16 : ∀ z : Int, IntKind.u16.wrap z = z % 65536 := fun z => by simp [IntKind.wrap, IntKind.bits, IntKind.signed]
  clear HK1 HBS0
  have y1 : w3.cell? ⟨w.heap.size, 1, none⟩ = some (.int .u8 s1) := HY.out.cell 1
  go_wp2_with fail
  refine (appB_any (Also (Also S w.heap.size) w2.heap.size) A n c l s1 w3 HO.out HS.out ok1 ok2 (by omega)).mono ?_
  rintro e w4 ⟨A4, c4, rfl, o4, k4⟩
  have HY := Lib.hid (HY.out.kp k4 (.inl (.inr rfl)))
  have HI := Lib.hid (HI.out.kp k4 (.inr rfl))
  have HS := Lib.hid (k4.lt HS.out)
  have HK := Lib.hid (HK.out.trans k4)
  have HO := Lib.hid o4
  have q2 : w4.cell? ⟨w2.heap.size, 2, none⟩ = some (.int .u8 k) := HI.out.cell 2
  clear y1 o4 k4
  have h12 : k = 0 ∨ k = 1 ∨ k = 2 ∨ k = 3 ∨ k = 4 ∨ k = 5 ∨ k = 6 ∨ k = 7 ∨ k = 8 ∨ k = 9 ∨ k = 10 ∨ k = 11 := by omega
  clear hk12
  rcases h12 with rfl | rfl | rfl | rfl | rfl | rfl | rfl | rfl | rfl | rfl | rfl | rfl
  · clear HI
    go_wp2_with fail
    go_returns
    exact ⟨_, _, _, rfl, by have := HO.out.less (S' := S) (fun q hq => .inl (.inl hq)); simpa [List.append_assoc, bodyB] using this, HK0.out.trans (HK.out.mono (fun q hq => .inl (.inl hq)))⟩
  · clear HI
    have y0 : w4.cell? ⟨w.heap.size, 0, none⟩ = some (.int .i64 s0) := HY.out.cell 0
    have y2 : w4.cell? ⟨w.heap.size, 2, none⟩ = some (.int .i64 s2) := HY.out.cell 2
    have y3 : w4.cell? ⟨w.heap.size, 3, none⟩ = some (.int .u8 s3) := HY.out.cell 3
    have y4 : w4.cell? ⟨w.heap.size, 4, none⟩ = some (.int .u16 s4) := HY.out.cell 4
    have y5 : w4.cell? ⟨w.heap.size, 5, none⟩ = some (.int .i64 s5) := HY.out.cell 5
    have y6 : w4.cell? ⟨w.heap.size, 6, none⟩ = some (.int .i64 s6) := HY.out.cell 6
    have y7 : w4.cell? ⟨w.heap.size, 7, none⟩ = some (.slice tA tn tc) := HY.out.cell 7
    have y9 : w4.cell? ⟨w.heap.size, 9, none⟩ = some (.int .u16 s7) := HY.out.cell 9
    go_wp2_with fail
    refine (appB_any (Also (Also S w.heap.size) w2.heap.size) _ _ _ _ (s4 % 256) w4 HO.out HS.out (by omega) (by omega) (by omega)).mono ?_
    rintro e v0 ⟨A5, c5, rfl, o5, k5⟩
    have HY := Lib.hid (HY.out.kp k5 (.inl (.inr rfl)))
    have HS := Lib.hid (k5.lt HS.out)
    have HK := Lib.hid (HK.out.trans k5)
    have HO := Lib.hid o5
    clear y0 y2 y3 y4 y5 y6 y7 y9
    clear o5 k5
    go_wp2_with fail
    go_returns
    exact ⟨_, _, _, rfl, by have := HO.out.less (S' := S) (fun q hq => .inl (.inl hq)); simpa [List.append_assoc, bodyB] using this, HK0.out.trans (HK.out.mono (fun q hq => .inl (.inl hq)))⟩
  · clear HI
    have y0 : w4.cell? ⟨w.heap.size, 0, none⟩ = some (.int .i64 s0) := HY.out.cell 0
    have y2 : w4.cell? ⟨w.heap.size, 2, none⟩ = some (.int .i64 s2) := HY.out.cell 2
    have y3 : w4.cell? ⟨w.heap.size, 3, none⟩ = some (.int .u8 s3) := HY.out.cell 3
    have y4 : w4.cell? ⟨w.heap.size, 4, none⟩ = some (.int .u16 s4) := HY.out.cell 4
    have y5 : w4.cell? ⟨w.heap.size, 5, none⟩ = some (.int .i64 s5) := HY.out.cell 5
    have y6 : w4.cell? ⟨w.heap.size, 6, none⟩ = some (.int .i64 s6) := HY.out.cell 6
    have y7 : w4.cell? ⟨w.heap.size, 7, none⟩ = some (.slice tA tn tc) := HY.out.cell 7
    have y9 : w4.cell? ⟨w.heap.size, 9, none⟩ = some (.int .u16 s7) := HY.out.cell 9
    go_wp2_with fail
    refine (appW_any (Also (Also S w.heap.size) w2.heap.size) _ _ _ _ s4 w4 HO.out HS.out (by omega) (by omega) (by omega)).mono ?_
    rintro e v0 ⟨A5, c5, rfl, o5, k5⟩
    have HY := Lib.hid (HY.out.kp k5 (.inl (.inr rfl)))
    have HS := Lib.hid (k5.lt HS.out)
    have HK := Lib.hid (HK.out.trans k5)
    have HO := Lib.hid o5
    clear y0 y2 y3 y4 y5 y6 y7 y9
    clear o5 k5
    go_wp2_with fail
    go_returns
    exact ⟨_, _, _, rfl, by have := HO.out.less (S' := S) (fun q hq => .inl (.inl hq)); simpa [List.append_assoc, bodyB] using this, HK0.out.trans (HK.out.mono (fun q hq => .inl (.inl hq)))⟩
  · clear HI
    have y0 : w4.cell? ⟨w.heap.size, 0, none⟩ = some (.int .i64 s0) := HY.out.cell 0
    have y2 : w4.cell? ⟨w.heap.size, 2, none⟩ = some (.int .i64 s2) := HY.out.cell 2
    have y3 : w4.cell? ⟨w.heap.size, 3, none⟩ = some (.int .u8 s3) := HY.out.cell 3
    have y4 : w4.cell? ⟨w.heap.size, 4, none⟩ = some (.int .u16 s4) := HY.out.cell 4
    have y5 : w4.cell? ⟨w.heap.size, 5, none⟩ = some (.int .i64 s5) := HY.out.cell 5
    have y6 : w4.cell? ⟨w.heap.size, 6, none⟩ = some (.int .i64 s6) := HY.out.cell 6
    have y7 : w4.cell? ⟨w.heap.size, 7, none⟩ = some (.slice tA tn tc) := HY.out.cell 7
    have y9 : w4.cell? ⟨w.heap.size, 9, none⟩ = some (.int .u16 s7) := HY.out.cell 9
    go_wp2_with fail
    refine (appB_any (Also (Also S w.heap.size) w2.heap.size) _ _ _ _ (s2 % 256) w4 HO.out HS.out (by omega) (by omega) (by omega)).mono ?_
    rintro e v0 ⟨A5, c5, rfl, o5, k5⟩
    have HY := Lib.hid (HY.out.kp k5 (.inl (.inr rfl)))
    have HS := Lib.hid (k5.lt HS.out)
    have HK := Lib.hid (HK.out.trans k5)
    have HO := Lib.hid o5
    clear y0 y2 y3 y4 y5 y6 y7 y9
    clear o5 k5
    go_wp2_with fail
    go_returns
    exact ⟨_, _, _, rfl, by have := HO.out.less (S' := S) (fun q hq => .inl (.inl hq)); simpa [List.append_assoc, bodyB] using this, HK0.out.trans (HK.out.mono (fun q hq => .inl (.inl hq)))⟩
  · clear HI
    have y0 : w4.cell? ⟨w.heap.size, 0, none⟩ = some (.int .i64 s0) := HY.out.cell 0
    have y2 : w4.cell? ⟨w.heap.size, 2, none⟩ = some (.int .i64 s2) := HY.out.cell 2
    have y3 : w4.cell? ⟨w.heap.size, 3, none⟩ = some (.int .u8 s3) := HY.out.cell 3
    have y4 : w4.cell? ⟨w.heap.size, 4, none⟩ = some (.int .u16 s4) := HY.out.cell 4
    have y5 : w4.cell? ⟨w.heap.size, 5, none⟩ = some (.int .i64 s5) := HY.out.cell 5
    have y6 : w4.cell? ⟨w.heap.size, 6, none⟩ = some (.int .i64 s6) := HY.out.cell 6
    have y7 : w4.cell? ⟨w.heap.size, 7, none⟩ = some (.slice tA tn tc) := HY.out.cell 7
    have y9 : w4.cell? ⟨w.heap.size, 9, none⟩ = some (.int .u16 s7) := HY.out.cell 9
    go_wp2_with fail
    refine (appB_any (Also (Also S w.heap.size) w2.heap.size) _ _ _ _ (s2 % 256) w4 HO.out HS.out (by omega) (by omega) (by omega)).mono ?_
    rintro e v0 ⟨A5, c5, rfl, o5, k5⟩
    have HY := Lib.hid (HY.out.kp k5 (.inl (.inr rfl)))
    have HS := Lib.hid (k5.lt HS.out)
    have HK := Lib.hid (HK.out.trans k5)
    have HO := Lib.hid o5
    clear y0 y2 y3 y4 y5 y6 y7 y9
    clear o5 k5
    have y0 : v0.cell? ⟨w.heap.size, 0, none⟩ = some (.int .i64 s0) := HY.out.cell 0
    have y2 : v0.cell? ⟨w.heap.size, 2, none⟩ = some (.int .i64 s2) := HY.out.cell 2
    have y3 : v0.cell? ⟨w.heap.size, 3, none⟩ = some (.int .u8 s3) := HY.out.cell 3
    have y4 : v0.cell? ⟨w.heap.size, 4, none⟩ = some (.int .u16 s4) := HY.out.cell 4
    have y5 : v0.cell? ⟨w.heap.size, 5, none⟩ = some (.int .i64 s5) := HY.out.cell 5
    have y6 : v0.cell? ⟨w.heap.size, 6, none⟩ = some (.int .i64 s6) := HY.out.cell 6
    have y7 : v0.cell? ⟨w.heap.size, 7, none⟩ = some (.slice tA tn tc) := HY.out.cell 7
    have y9 : v0.cell? ⟨w.heap.size, 9, none⟩ = some (.int .u16 s7) := HY.out.cell 9
    go_wp2_with fail
    refine (appB_any (Also (Also S w.heap.size) w2.heap.size) _ _ _ _ s3 v0 HO.out HS.out (by omega) (by omega) (by omega)).mono ?_
    rintro e v1 ⟨A5, c5, rfl, o5, k5⟩
    have HY := Lib.hid (HY.out.kp k5 (.inl (.inr rfl)))
    have HS := Lib.hid (k5.lt HS.out)
    have HK := Lib.hid (HK.out.trans k5)
    have HO := Lib.hid o5
    clear y0 y2 y3 y4 y5 y6 y7 y9
    clear o5 k5
    go_wp2_with fail
    go_returns
    exact ⟨_, _, _, rfl, by have := HO.out.less (S' := S) (fun q hq => .inl (.inl hq)); simpa [List.append_assoc, bodyB] using this, HK0.out.trans (HK.out.mono (fun q hq => .inl (.inl hq)))⟩
  · clear HI
    have y0 : w4.cell? ⟨w.heap.size, 0, none⟩ = some (.int .i64 s0) := HY.out.cell 0
    have y2 : w4.cell? ⟨w.heap.size, 2, none⟩ = some (.int .i64 s2) := HY.out.cell 2
    have y3 : w4.cell? ⟨w.heap.size, 3, none⟩ = some (.int .u8 s3) := HY.out.cell 3
    have y4 : w4.cell? ⟨w.heap.size, 4, none⟩ = some (.int .u16 s4) := HY.out.cell 4
    have y5 : w4.cell? ⟨w.heap.size, 5, none⟩ = some (.int .i64 s5) := HY.out.cell 5
    have y6 : w4.cell? ⟨w.heap.size, 6, none⟩ = some (.int .i64 s6) := HY.out.cell 6
    have y7 : w4.cell? ⟨w.heap.size, 7, none⟩ = some (.slice tA tn tc) := HY.out.cell 7
    have y9 : w4.cell? ⟨w.heap.size, 9, none⟩ = some (.int .u16 s7) := HY.out.cell 9
    go_wp2_with fail
    refine (appJ_any (Also (Also S w.heap.size) w2.heap.size) _ _ _ _ s0 s6 w4 HO.out HS.out (by omega)).mono ?_
    rintro e v0 ⟨A5, c5, rfl, o5, k5⟩
    have HY := Lib.hid (HY.out.kp k5 (.inl (.inr rfl)))
    have HS := Lib.hid (k5.lt HS.out)
    have HK := Lib.hid (HK.out.trans k5)
    have HO := Lib.hid o5
    clear y0 y2 y3 y4 y5 y6 y7 y9
    clear o5 k5
    go_wp2_with fail
    go_returns
    exact ⟨_, _, _, rfl, by have := HO.out.less (S' := S) (fun q hq => .inl (.inl hq)); simpa [List.append_assoc, bodyB] using this, HK0.out.trans (HK.out.mono (fun q hq => .inl (.inl hq)))⟩
  · clear HI
    obtain ⟨ct, hct⟩ : ∃ z, (tn : Int) % 65536 = z := ⟨_, rfl⟩
    obtain ⟨q1, hq1⟩ : ∃ z, (s7 + ct) % 65536 = z := ⟨_, rfl⟩
    obtain ⟨hi, hhi⟩ : ∃ z, (q1 - 1) % 65536 = z := ⟨_, rfl⟩
    have hct2 : IntKind.u16.wrap (tn : Int) = ct := by rw [hw16]; exact hct
    have hq2 : IntKind.u16.wrap (s7 + ct) = q1 := by rw [hw16]; exact hq1
    have hhi2 : IntKind.u16.wrap (q1 - 1) = hi := by rw [hw16]; exact hhi
    have HHI := Lib.hid (show hi = (s7 + (tab.length : Int) - 1) % 65536 by rw [hlt]; omega)
    have hr1 : 0 ≤ hi ∧ hi < 65536 := by omega
    have y0 : w4.cell? ⟨w.heap.size, 0, none⟩ = some (.int .i64 s0) := HY.out.cell 0
    have y2 : w4.cell? ⟨w.heap.size, 2, none⟩ = some (.int .i64 s2) := HY.out.cell 2
    have y3 : w4.cell? ⟨w.heap.size, 3, none⟩ = some (.int .u8 s3) := HY.out.cell 3
    have y4 : w4.cell? ⟨w.heap.size, 4, none⟩ = some (.int .u16 s4) := HY.out.cell 4
    have y5 : w4.cell? ⟨w.heap.size, 5, none⟩ = some (.int .i64 s5) := HY.out.cell 5
    have y6 : w4.cell? ⟨w.heap.size, 6, none⟩ = some (.int .i64 s6) := HY.out.cell 6
    have y7 : w4.cell? ⟨w.heap.size, 7, none⟩ = some (.slice tA tn tc) := HY.out.cell 7
    have y9 : w4.cell? ⟨w.heap.size, 9, none⟩ = some (.int .u16 s7) := HY.out.cell 9
    go_wp2_with fail
    refine (appJ_any (Also (Also S w.heap.size) w2.heap.size) _ _ _ _ s0 s6 w4 HO.out HS.out (by omega)).mono ?_
    rintro e v0 ⟨A5, c5, rfl, o5, k5⟩
    have HY := Lib.hid (HY.out.kp k5 (.inl (.inr rfl)))
    have HS := Lib.hid (k5.lt HS.out)
    have HK := Lib.hid (HK.out.trans k5)
    have HO := Lib.hid o5
    clear y0 y2 y3 y4 y5 y6 y7 y9
    clear o5 k5
    have y0 : v0.cell? ⟨w.heap.size, 0, none⟩ = some (.int .i64 s0) := HY.out.cell 0
    have y2 : v0.cell? ⟨w.heap.size, 2, none⟩ = some (.int .i64 s2) := HY.out.cell 2
    have y3 : v0.cell? ⟨w.heap.size, 3, none⟩ = some (.int .u8 s3) := HY.out.cell 3
    have y4 : v0.cell? ⟨w.heap.size, 4, none⟩ = some (.int .u16 s4) := HY.out.cell 4
    have y5 : v0.cell? ⟨w.heap.size, 5, none⟩ = some (.int .i64 s5) := HY.out.cell 5
    have y6 : v0.cell? ⟨w.heap.size, 6, none⟩ = some (.int .i64 s6) := HY.out.cell 6
    have y7 : v0.cell? ⟨w.heap.size, 7, none⟩ = some (.slice tA tn tc) := HY.out.cell 7
    have y9 : v0.cell? ⟨w.heap.size, 9, none⟩ = some (.int .u16 s7) := HY.out.cell 9
    go_wp2_with fail
    refine (appW_any (Also (Also S w.heap.size) w2.heap.size) _ _ _ _ s7 v0 HO.out HS.out (by omega) (by omega) (by omega)).mono ?_
    rintro e v1 ⟨A5, c5, rfl, o5, k5⟩
    have HY := Lib.hid (HY.out.kp k5 (.inl (.inr rfl)))
    have HS := Lib.hid (k5.lt HS.out)
    have HK := Lib.hid (HK.out.trans k5)
    have HO := Lib.hid o5
    clear y0 y2 y3 y4 y5 y6 y7 y9
    clear o5 k5
    have y0 : v1.cell? ⟨w.heap.size, 0, none⟩ = some (.int .i64 s0) := HY.out.cell 0
    have y2 : v1.cell? ⟨w.heap.size, 2, none⟩ = some (.int .i64 s2) := HY.out.cell 2
    have y3 : v1.cell? ⟨w.heap.size, 3, none⟩ = some (.int .u8 s3) := HY.out.cell 3
    have y4 : v1.cell? ⟨w.heap.size, 4, none⟩ = some (.int .u16 s4) := HY.out.cell 4
    have y5 : v1.cell? ⟨w.heap.size, 5, none⟩ = some (.int .i64 s5) := HY.out.cell 5
    have y6 : v1.cell? ⟨w.heap.size, 6, none⟩ = some (.int .i64 s6) := HY.out.cell 6
    have y7 : v1.cell? ⟨w.heap.size, 7, none⟩ = some (.slice tA tn tc) := HY.out.cell 7
    have y9 : v1.cell? ⟨w.heap.size, 9, none⟩ = some (.int .u16 s7) := HY.out.cell 9
    go_wp2_with fail
    refine (appW_any (Also (Also S w.heap.size) w2.heap.size) _ _ _ _ hi v1 HO.out HS.out (by omega) (by omega) (by omega)).mono ?_
    rintro e v2 ⟨A5, c5, rfl, o5, k5⟩
    have HY := Lib.hid (HY.out.kp k5 (.inl (.inr rfl)))
    have HS := Lib.hid (k5.lt HS.out)
    have HK := Lib.hid (HK.out.trans k5)
    have HO := Lib.hid o5
    clear y0 y2 y3 y4 y5 y6 y7 y9
    clear o5 k5
    have y0 : v2.cell? ⟨w.heap.size, 0, none⟩ = some (.int .i64 s0) := HY.out.cell 0
    have y2 : v2.cell? ⟨w.heap.size, 2, none⟩ = some (.int .i64 s2) := HY.out.cell 2
    have y3 : v2.cell? ⟨w.heap.size, 3, none⟩ = some (.int .u8 s3) := HY.out.cell 3
    have y4 : v2.cell? ⟨w.heap.size, 4, none⟩ = some (.int .u16 s4) := HY.out.cell 4
    have y5 : v2.cell? ⟨w.heap.size, 5, none⟩ = some (.int .i64 s5) := HY.out.cell 5
    have y6 : v2.cell? ⟨w.heap.size, 6, none⟩ = some (.int .i64 s6) := HY.out.cell 6
    have y7 : v2.cell? ⟨w.heap.size, 7, none⟩ = some (.slice tA tn tc) := HY.out.cell 7
    have y9 : v2.cell? ⟨w.heap.size, 9, none⟩ = some (.int .u16 s7) := HY.out.cell 9
    go_wp2_with ((with_reducible refine wpList_ldI' rfl (.tmp 3) rfl HY.out ?_ ?_ ?_); exact rfl; exact rfl)
    refine (appR_any (Also (Also S w.heap.size) w2.heap.size) _ _ _ B _ ⟨⟨s0, s1, s2, s3, s4, s5, s6, s7⟩, tA, tn, tc, mA, mn, mc⟩ ⟨⟨s0, s1, s2, s3, s4, s5, s6, s7⟩, tab, mat⟩ v2 HO.out HS.out (HIR.out _ HK.out) HBS.out (by have := HK.out.size; omega) ht (by omega)).mono ?_
    rintro e v3 ⟨A5, N5, c5, rfl, o5, k5⟩
    have HY := Lib.hid (HY.out.kp k5 (.inl (.inr rfl)))
    have HS := Lib.hid (k5.lt HS.out)
    have HK := Lib.hid (HK.out.trans k5)
    have HO := Lib.hid o5
    clear y0 y2 y3 y4 y5 y6 y7 y9
    clear o5 k5
    go_wp2_with fail
    go_returns
    exact ⟨_, _, _, rfl, by have := HO.out.less (S' := S) (fun q hq => .inl (.inl hq)); rw [HHI.out] at this; simpa [List.append_assoc, bodyB] using this, HK0.out.trans (HK.out.mono (fun q hq => .inl (.inl hq)))⟩
  · clear HI
    obtain ⟨cw, hct⟩ : ∃ z, (tn : Int) % 65536 = z := ⟨_, rfl⟩
    have hct2 : IntKind.u16.wrap (tn : Int) = cw := by rw [hw16]; exact hct
    have HCW := Lib.hid (show cw = (tab.length : Int) % 65536 by rw [hlt]; omega)
    have hr1 : 0 ≤ cw ∧ cw < 65536 := by omega
    have y0 : w4.cell? ⟨w.heap.size, 0, none⟩ = some (.int .i64 s0) := HY.out.cell 0
    have y2 : w4.cell? ⟨w.heap.size, 2, none⟩ = some (.int .i64 s2) := HY.out.cell 2
    have y3 : w4.cell? ⟨w.heap.size, 3, none⟩ = some (.int .u8 s3) := HY.out.cell 3
    have y4 : w4.cell? ⟨w.heap.size, 4, none⟩ = some (.int .u16 s4) := HY.out.cell 4
    have y5 : w4.cell? ⟨w.heap.size, 5, none⟩ = some (.int .i64 s5) := HY.out.cell 5
    have y6 : w4.cell? ⟨w.heap.size, 6, none⟩ = some (.int .i64 s6) := HY.out.cell 6
    have y7 : w4.cell? ⟨w.heap.size, 7, none⟩ = some (.slice tA tn tc) := HY.out.cell 7
    have y9 : w4.cell? ⟨w.heap.size, 9, none⟩ = some (.int .u16 s7) := HY.out.cell 9
    go_wp2_with fail
    refine (appJ_any (Also (Also S w.heap.size) w2.heap.size) _ _ _ _ s0 s6 w4 HO.out HS.out (by omega)).mono ?_
    rintro e v0 ⟨A5, c5, rfl, o5, k5⟩
    have HY := Lib.hid (HY.out.kp k5 (.inl (.inr rfl)))
    have HS := Lib.hid (k5.lt HS.out)
    have HK := Lib.hid (HK.out.trans k5)
    have HO := Lib.hid o5
    clear y0 y2 y3 y4 y5 y6 y7 y9
    clear o5 k5
    have y0 : v0.cell? ⟨w.heap.size, 0, none⟩ = some (.int .i64 s0) := HY.out.cell 0
    have y2 : v0.cell? ⟨w.heap.size, 2, none⟩ = some (.int .i64 s2) := HY.out.cell 2
    have y3 : v0.cell? ⟨w.heap.size, 3, none⟩ = some (.int .u8 s3) := HY.out.cell 3
    have y4 : v0.cell? ⟨w.heap.size, 4, none⟩ = some (.int .u16 s4) := HY.out.cell 4
    have y5 : v0.cell? ⟨w.heap.size, 5, none⟩ = some (.int .i64 s5) := HY.out.cell 5
    have y6 : v0.cell? ⟨w.heap.size, 6, none⟩ = some (.int .i64 s6) := HY.out.cell 6
    have y7 : v0.cell? ⟨w.heap.size, 7, none⟩ = some (.slice tA tn tc) := HY.out.cell 7
    have y9 : v0.cell? ⟨w.heap.size, 9, none⟩ = some (.int .u16 s7) := HY.out.cell 9
    go_wp2_with fail
    refine (appW_any (Also (Also S w.heap.size) w2.heap.size) _ _ _ _ cw v0 HO.out HS.out (by omega) (by omega) (by omega)).mono ?_
    rintro e v1 ⟨A5, c5, rfl, o5, k5⟩
    have HY := Lib.hid (HY.out.kp k5 (.inl (.inr rfl)))
    have HS := Lib.hid (k5.lt HS.out)
    have HK := Lib.hid (HK.out.trans k5)
    have HO := Lib.hid o5
    clear y0 y2 y3 y4 y5 y6 y7 y9
    clear o5 k5
    have y0 : v1.cell? ⟨w.heap.size, 0, none⟩ = some (.int .i64 s0) := HY.out.cell 0
    have y2 : v1.cell? ⟨w.heap.size, 2, none⟩ = some (.int .i64 s2) := HY.out.cell 2
    have y3 : v1.cell? ⟨w.heap.size, 3, none⟩ = some (.int .u8 s3) := HY.out.cell 3
    have y4 : v1.cell? ⟨w.heap.size, 4, none⟩ = some (.int .u16 s4) := HY.out.cell 4
    have y5 : v1.cell? ⟨w.heap.size, 5, none⟩ = some (.int .i64 s5) := HY.out.cell 5
    have y6 : v1.cell? ⟨w.heap.size, 6, none⟩ = some (.int .i64 s6) := HY.out.cell 6
    have y7 : v1.cell? ⟨w.heap.size, 7, none⟩ = some (.slice tA tn tc) := HY.out.cell 7
    have y9 : v1.cell? ⟨w.heap.size, 9, none⟩ = some (.int .u16 s7) := HY.out.cell 9
    go_wp2_with ((with_reducible refine wpList_ldI' rfl (.tmp 3) rfl HY.out ?_ ?_ ?_); exact rfl; exact rfl)
    refine (appR_any (Also (Also S w.heap.size) w2.heap.size) _ _ _ B _ ⟨⟨s0, s1, s2, s3, s4, s5, s6, s7⟩, tA, tn, tc, mA, mn, mc⟩ ⟨⟨s0, s1, s2, s3, s4, s5, s6, s7⟩, tab, mat⟩ v1 HO.out HS.out (HIR.out _ HK.out) HBS.out (by have := HK.out.size; omega) ht (by omega)).mono ?_
    rintro e v2 ⟨A5, N5, c5, rfl, o5, k5⟩
    have HY := Lib.hid (HY.out.kp k5 (.inl (.inr rfl)))
    have HS := Lib.hid (k5.lt HS.out)
    have HK := Lib.hid (HK.out.trans k5)
    have HO := Lib.hid o5
    clear y0 y2 y3 y4 y5 y6 y7 y9
    clear o5 k5
    go_wp2_with fail
    go_returns
    exact ⟨_, _, _, rfl, by have := HO.out.less (S' := S) (fun q hq => .inl (.inl hq)); rw [HCW.out] at this; simpa [List.append_assoc, bodyB] using this, HK0.out.trans (HK.out.mono (fun q hq => .inl (.inl hq)))⟩
  · clear HI
    have y0 : w4.cell? ⟨w.heap.size, 0, none⟩ = some (.int .i64 s0) := HY.out.cell 0
    have y2 : w4.cell? ⟨w.heap.size, 2, none⟩ = some (.int .i64 s2) := HY.out.cell 2
    have y3 : w4.cell? ⟨w.heap.size, 3, none⟩ = some (.int .u8 s3) := HY.out.cell 3
    have y4 : w4.cell? ⟨w.heap.size, 4, none⟩ = some (.int .u16 s4) := HY.out.cell 4
    have y5 : w4.cell? ⟨w.heap.size, 5, none⟩ = some (.int .i64 s5) := HY.out.cell 5
    have y6 : w4.cell? ⟨w.heap.size, 6, none⟩ = some (.int .i64 s6) := HY.out.cell 6
    have y7 : w4.cell? ⟨w.heap.size, 7, none⟩ = some (.slice tA tn tc) := HY.out.cell 7
    have y9 : w4.cell? ⟨w.heap.size, 9, none⟩ = some (.int .u16 s7) := HY.out.cell 9
    go_wp2_with fail
    refine (appW_any (Also (Also S w.heap.size) w2.heap.size) _ _ _ _ (s5 % 65536) w4 HO.out HS.out (by omega) (by omega) (by omega)).mono ?_
    rintro e v0 ⟨A5, c5, rfl, o5, k5⟩
    have HY := Lib.hid (HY.out.kp k5 (.inl (.inr rfl)))
    have HS := Lib.hid (k5.lt HS.out)
    have HK := Lib.hid (HK.out.trans k5)
    have HO := Lib.hid o5
    clear y0 y2 y3 y4 y5 y6 y7 y9
    clear o5 k5
    go_wp2_with fail
    go_returns
    exact ⟨_, _, _, rfl, by have := HO.out.less (S' := S) (fun q hq => .inl (.inl hq)); simpa [List.append_assoc, bodyB] using this, HK0.out.trans (HK.out.mono (fun q hq => .inl (.inl hq)))⟩
  · clear HI
    have y0 : w4.cell? ⟨w.heap.size, 0, none⟩ = some (.int .i64 s0) := HY.out.cell 0
    have y2 : w4.cell? ⟨w.heap.size, 2, none⟩ = some (.int .i64 s2) := HY.out.cell 2
    have y3 : w4.cell? ⟨w.heap.size, 3, none⟩ = some (.int .u8 s3) := HY.out.cell 3
    have y4 : w4.cell? ⟨w.heap.size, 4, none⟩ = some (.int .u16 s4) := HY.out.cell 4
    have y5 : w4.cell? ⟨w.heap.size, 5, none⟩ = some (.int .i64 s5) := HY.out.cell 5
    have y6 : w4.cell? ⟨w.heap.size, 6, none⟩ = some (.int .i64 s6) := HY.out.cell 6
    have y7 : w4.cell? ⟨w.heap.size, 7, none⟩ = some (.slice tA tn tc) := HY.out.cell 7
    have y9 : w4.cell? ⟨w.heap.size, 9, none⟩ = some (.int .u16 s7) := HY.out.cell 9
    go_wp2_with fail
    refine (appB_any (Also (Also S w.heap.size) w2.heap.size) _ _ _ _ (s2 % 256) w4 HO.out HS.out (by omega) (by omega) (by omega)).mono ?_
    rintro e v0 ⟨A5, c5, rfl, o5, k5⟩
    have HY := Lib.hid (HY.out.kp k5 (.inl (.inr rfl)))
    have HS := Lib.hid (k5.lt HS.out)
    have HK := Lib.hid (HK.out.trans k5)
    have HO := Lib.hid o5
    clear y0 y2 y3 y4 y5 y6 y7 y9
    clear o5 k5
    have y0 : v0.cell? ⟨w.heap.size, 0, none⟩ = some (.int .i64 s0) := HY.out.cell 0
    have y2 : v0.cell? ⟨w.heap.size, 2, none⟩ = some (.int .i64 s2) := HY.out.cell 2
    have y3 : v0.cell? ⟨w.heap.size, 3, none⟩ = some (.int .u8 s3) := HY.out.cell 3
    have y4 : v0.cell? ⟨w.heap.size, 4, none⟩ = some (.int .u16 s4) := HY.out.cell 4
    have y5 : v0.cell? ⟨w.heap.size, 5, none⟩ = some (.int .i64 s5) := HY.out.cell 5
    have y6 : v0.cell? ⟨w.heap.size, 6, none⟩ = some (.int .i64 s6) := HY.out.cell 6
    have y7 : v0.cell? ⟨w.heap.size, 7, none⟩ = some (.slice tA tn tc) := HY.out.cell 7
    have y9 : v0.cell? ⟨w.heap.size, 9, none⟩ = some (.int .u16 s7) := HY.out.cell 9
    go_wp2_with fail
    refine (appW_any (Also (Also S w.heap.size) w2.heap.size) _ _ _ _ (s5 % 65536) v0 HO.out HS.out (by omega) (by omega) (by omega)).mono ?_
    rintro e v1 ⟨A5, c5, rfl, o5, k5⟩
    have HY := Lib.hid (HY.out.kp k5 (.inl (.inr rfl)))
    have HS := Lib.hid (k5.lt HS.out)
    have HK := Lib.hid (HK.out.trans k5)
    have HO := Lib.hid o5
    clear y0 y2 y3 y4 y5 y6 y7 y9
    clear o5 k5
    have y0 : v1.cell? ⟨w.heap.size, 0, none⟩ = some (.int .i64 s0) := HY.out.cell 0
    have y2 : v1.cell? ⟨w.heap.size, 2, none⟩ = some (.int .i64 s2) := HY.out.cell 2
    have y3 : v1.cell? ⟨w.heap.size, 3, none⟩ = some (.int .u8 s3) := HY.out.cell 3
    have y4 : v1.cell? ⟨w.heap.size, 4, none⟩ = some (.int .u16 s4) := HY.out.cell 4
    have y5 : v1.cell? ⟨w.heap.size, 5, none⟩ = some (.int .i64 s5) := HY.out.cell 5
    have y6 : v1.cell? ⟨w.heap.size, 6, none⟩ = some (.int .i64 s6) := HY.out.cell 6
    have y7 : v1.cell? ⟨w.heap.size, 7, none⟩ = some (.slice tA tn tc) := HY.out.cell 7
    have y9 : v1.cell? ⟨w.heap.size, 9, none⟩ = some (.int .u16 s7) := HY.out.cell 9
    go_wp2_with fail
    refine (appB_any (Also (Also S w.heap.size) w2.heap.size) _ _ _ _ s3 v1 HO.out HS.out (by omega) (by omega) (by omega)).mono ?_
    rintro e v2 ⟨A5, c5, rfl, o5, k5⟩
    have HY := Lib.hid (HY.out.kp k5 (.inl (.inr rfl)))
    have HS := Lib.hid (k5.lt HS.out)
    have HK := Lib.hid (HK.out.trans k5)
    have HO := Lib.hid o5
    clear y0 y2 y3 y4 y5 y6 y7 y9
    clear o5 k5
    go_wp2_with fail
    go_returns
    exact ⟨_, _, _, rfl, by have := HO.out.less (S' := S) (fun q hq => .inl (.inl hq)); simpa [List.append_assoc, bodyB] using this, HK0.out.trans (HK.out.mono (fun q hq => .inl (.inl hq)))⟩
  · clear HI
    have y0 : w4.cell? ⟨w.heap.size, 0, none⟩ = some (.int .i64 s0) := HY.out.cell 0
    have y2 : w4.cell? ⟨w.heap.size, 2, none⟩ = some (.int .i64 s2) := HY.out.cell 2
    have y3 : w4.cell? ⟨w.heap.size, 3, none⟩ = some (.int .u8 s3) := HY.out.cell 3
    have y4 : w4.cell? ⟨w.heap.size, 4, none⟩ = some (.int .u16 s4) := HY.out.cell 4
    have y5 : w4.cell? ⟨w.heap.size, 5, none⟩ = some (.int .i64 s5) := HY.out.cell 5
    have y6 : w4.cell? ⟨w.heap.size, 6, none⟩ = some (.int .i64 s6) := HY.out.cell 6
    have y7 : w4.cell? ⟨w.heap.size, 7, none⟩ = some (.slice tA tn tc) := HY.out.cell 7
    have y9 : w4.cell? ⟨w.heap.size, 9, none⟩ = some (.int .u16 s7) := HY.out.cell 9
    go_wp2_with fail
    refine (appB_any (Also (Also S w.heap.size) w2.heap.size) _ _ _ _ (s2 % 256) w4 HO.out HS.out (by omega) (by omega) (by omega)).mono ?_
    rintro e v0 ⟨A5, c5, rfl, o5, k5⟩
    have HY := Lib.hid (HY.out.kp k5 (.inl (.inr rfl)))
    have HS := Lib.hid (k5.lt HS.out)
    have HK := Lib.hid (HK.out.trans k5)
    have HO := Lib.hid o5
    clear y0 y2 y3 y4 y5 y6 y7 y9
    clear o5 k5
    go_wp2_with fail
    go_returns
    exact ⟨_, _, _, rfl, by have := HO.out.less (S' := S) (fun q hq => .inl (.inl hq)); simpa [List.append_assoc, bodyB] using this, HK0.out.trans (HK.out.mono (fun q hq => .inl (.inl hq)))⟩
  · clear HI
    have y0 : w4.cell? ⟨w.heap.size, 0, none⟩ = some (.int .i64 s0) := HY.out.cell 0
    have y2 : w4.cell? ⟨w.heap.size, 2, none⟩ = some (.int .i64 s2) := HY.out.cell 2
    have y3 : w4.cell? ⟨w.heap.size, 3, none⟩ = some (.int .u8 s3) := HY.out.cell 3
    have y4 : w4.cell? ⟨w.heap.size, 4, none⟩ = some (.int .u16 s4) := HY.out.cell 4
    have y5 : w4.cell? ⟨w.heap.size, 5, none⟩ = some (.int .i64 s5) := HY.out.cell 5
    have y6 : w4.cell? ⟨w.heap.size, 6, none⟩ = some (.int .i64 s6) := HY.out.cell 6
    have y7 : w4.cell? ⟨w.heap.size, 7, none⟩ = some (.slice tA tn tc) := HY.out.cell 7
    have y9 : w4.cell? ⟨w.heap.size, 9, none⟩ = some (.int .u16 s7) := HY.out.cell 9
    go_wp2_with fail
    refine (appB_any (Also (Also S w.heap.size) w2.heap.size) _ _ _ _ (s2 % 256) w4 HO.out HS.out (by omega) (by omega) (by omega)).mono ?_
    rintro e v0 ⟨A5, c5, rfl, o5, k5⟩
    have HY := Lib.hid (HY.out.kp k5 (.inl (.inr rfl)))
    have HS := Lib.hid (k5.lt HS.out)
    have HK := Lib.hid (HK.out.trans k5)
    have HO := Lib.hid o5
    clear y0 y2 y3 y4 y5 y6 y7 y9
    clear o5 k5
    have y0 : v0.cell? ⟨w.heap.size, 0, none⟩ = some (.int .i64 s0) := HY.out.cell 0
    have y2 : v0.cell? ⟨w.heap.size, 2, none⟩ = some (.int .i64 s2) := HY.out.cell 2
    have y3 : v0.cell? ⟨w.heap.size, 3, none⟩ = some (.int .u8 s3) := HY.out.cell 3
    have y4 : v0.cell? ⟨w.heap.size, 4, none⟩ = some (.int .u16 s4) := HY.out.cell 4
    have y5 : v0.cell? ⟨w.heap.size, 5, none⟩ = some (.int .i64 s5) := HY.out.cell 5
    have y6 : v0.cell? ⟨w.heap.size, 6, none⟩ = some (.int .i64 s6) := HY.out.cell 6
    have y7 : v0.cell? ⟨w.heap.size, 7, none⟩ = some (.slice tA tn tc) := HY.out.cell 7
    have y9 : v0.cell? ⟨w.heap.size, 9, none⟩ = some (.int .u16 s7) := HY.out.cell 9
    go_wp2_with fail
    refine (appW_any (Also (Also S w.heap.size) w2.heap.size) _ _ _ _ (s5 % 65536) v0 HO.out HS.out (by omega) (by omega) (by omega)).mono ?_
    rintro e v1 ⟨A5, c5, rfl, o5, k5⟩
    have HY := Lib.hid (HY.out.kp k5 (.inl (.inr rfl)))
    have HS := Lib.hid (k5.lt HS.out)
    have HK := Lib.hid (HK.out.trans k5)
    have HO := Lib.hid o5
    clear y0 y2 y3 y4 y5 y6 y7 y9
    clear o5 k5
    go_wp2_with fail
    go_returns
    exact ⟨_, _, _, rfl, by have := HO.out.less (S' := S) (fun q hq => .inl (.inl hq)); simpa [List.append_assoc, bodyB] using this, HK0.out.trans (HK.out.mono (fun q hq => .inl (.inl hq)))⟩
end Go.Proofs.YtolifmpkillglaaGreatDoor

set_option linter.unusedVariables false
set_option maxRecDepth 100000
namespace Go.Proofs.YtolifmpkillglaaGreatDoor
open Go.RowKit
/-! What is read is put as the same bytes, as lists. -/
theorem wd2_wd (b : List Int) (hr : rng b) (p : Nat) : wd2 (wd b p) = [b.getD p 0, b.getD (p + 1) 0] := by
  have h1 := rng_getD hr p
  have h2 := rng_getD hr (p + 1)
  unfold wd2 wd
  have e1 : (256 * b.getD p 0 + b.getD (p + 1) 0) / 256 % 256 = b.getD p 0 := by omega
  have e2 : (256 * b.getD p 0 + b.getD (p + 1) 0) % 256 = b.getD (p + 1) 0 := by omega
  rw [e1, e2]
theorem jmpW_at (f x : Int) (h0 : 0 ≤ x) (h1 : x < 65536) : jmpW f (f + worth x) = x := by
  unfold jmpW worth
  split <;> omega
theorem take_two (b : List Int) (p : Nat) (h : p + 2 ≤ b.length) : b.take (p + 2) = b.take p ++ [b.getD p 0, b.getD (p + 1) 0] := by
  rw [List.take_add, List.drop_eq_getElem_cons (by omega), List.drop_eq_getElem_cons (by omega), List.getD_eq_getElem?_getD, List.getD_eq_getElem?_getD, List.getElem?_eq_getElem (by omega), List.getElem?_eq_getElem (by omega)]
  rfl
theorem tabC_get (k : Nat) (f : Int) (b : List Int) (n j : Nat) (h : j < n) : (tabC k f b n).getD j 0 = f + worth (wd b (if k = 7 then 4 * j + 2 else 2 * j)) := by
  unfold tabC
  rw [List.getD_eq_getElem?_getD, List.getElem?_map, List.getElem?_range h]
  rfl
theorem matC_get (b : List Int) (n j : Nat) (h : j < n) : (matC 7 b n).getD j 0 = wd b (4 * j) := by
  unfold matC
  rw [if_pos rfl, List.getD_eq_getElem?_getD, List.getElem?_map, List.getElem?_range h]
  rfl
theorem rowsL_6 (f : Int) (b : List Int) (hr : rng b) (n : Nat) (hn : b.length = n * 2) : ∀ j, j ≤ n → rowsL f (tabC 6 f b n) (matC 6 b n) j = b.take (2 * j)
  | 0, _ => rfl
  | j + 1, h => by
    have g := wd_rg b hr (2 * j)
    unfold rowsL
    rw [rowsL_6 f b hr n hn j (by omega), if_neg (by rw [matC6]; simp), tabC_get 6 f b n j (by omega), if_neg (by decide), jmpW_at _ _ g.1 g.2, wd2_wd b hr, List.nil_append]
    exact (take_two b (2 * j) (by omega)).symm
theorem rowsL_7 (f : Int) (b : List Int) (hr : rng b) (n : Nat) (hn : b.length = n * 4) : ∀ j, j ≤ n → rowsL f (tabC 7 f b n) (matC 7 b n) j = b.take (4 * j)
  | 0, _ => rfl
  | j + 1, h => by
    have g := wd_rg b hr (4 * j + 2)
    unfold rowsL
    rw [rowsL_7 f b hr n hn j (by omega), if_pos (by rw [matC_len]; omega), tabC_get 7 f b n j (by omega), if_pos rfl, jmpW_at _ _ g.1 g.2, matC_get b n j (by omega), wd2_wd b hr, wd2_wd b hr, ← List.append_assoc, ← take_two b (4 * j) (by omega), show 4 * (j + 1) = 4 * j + 2 + 2 by omega, take_two b (4 * j + 2) (by omega)]
theorem body_eq (k cnt : Nat) (hk : k < 12) (f o : Int) (b b2 : List Int) (hb : b.length = hdS k) (hr : rng b) (hc : headR k b = cnt) (hb2 : b2.length = cnt * rwS k) (hr2 : rng b2) :
    bodyB k ⟨headSc k f b (scI f o), tabC k f b2 cnt, matC k b2 cnt⟩ = b ++ b2 := by
  have h12 : k = 0 ∨ k = 1 ∨ k = 2 ∨ k = 3 ∨ k = 4 ∨ k = 5 ∨ k = 6 ∨ k = 7 ∨ k = 8 ∨ k = 9 ∨ k = 10 ∨ k = 11 := by omega
  have nil2 : ∀ q, rwS q = 0 → k = q → b2 = [] := fun q h1 h2 => by
    subst h2
    rw [h1, Nat.mul_zero] at hb2
    exact List.eq_nil_of_length_eq_zero hb2
  rcases h12 with rfl | rfl | rfl | rfl | rfl | rfl | rfl | rfl | rfl | rfl | rfl | rfl
  · rw [nil2 0 rfl rfl]
    match b, hb with
    | [], _ => rfl
  · rw [nil2 1 rfl rfl]
    match b, hb, hr with
    | [x0], _, hr =>
      have g := rng_getD hr 0
      show [sgn8 x0 % 256] = [x0]
      have g : 0 ≤ x0 ∧ x0 < 256 := g
      have : sgn8 x0 % 256 = x0 := by unfold sgn8; split <;> omega
      rw [this]
  · rw [nil2 2 rfl rfl]
    match b, hb, hr with
    | [x0, x1], _, hr => exact wd2_wd [x0, x1] hr 0
  · rw [nil2 3 rfl rfl]
    match b, hb, hr with
    | [x0], _, hr =>
      have g : 0 ≤ x0 ∧ x0 < 256 := rng_getD hr 0
      show [x0 % 256] = [x0]
      rw [Int.emod_eq_of_lt g.1 g.2]
  · rw [nil2 4 rfl rfl]
    match b, hb, hr with
    | [x0, x1], _, hr =>
      have g : 0 ≤ x0 ∧ x0 < 256 := rng_getD hr 0
      show [x0 % 256] ++ [x1] = [x0, x1]
      rw [Int.emod_eq_of_lt g.1 g.2]
      rfl
  · rw [nil2 5 rfl rfl]
    match b, hb, hr with
    | [x0, x1], _, hr =>
      have g := wd_rg [x0, x1] hr 0
      show wd2 (jmpW f (f + worth (wd [x0, x1] 0))) = [x0, x1]
      rw [jmpW_at _ _ g.1 g.2]
      exact wd2_wd [x0, x1] hr 0
  · match b, hb, hr, hc with
    | [x0, x1, x2, x3, x4, x5], _, hr, hc =>
      have g0 := wd_rg [x0, x1, x2, x3, x4, x5] hr 0
      have g2 := wd_rg [x0, x1, x2, x3, x4, x5] hr 2
      have g4 := wd_rg [x0, x1, x2, x3, x4, x5] hr 4
      have hc : rowsT (wd [x0, x1, x2, x3, x4, x5] 2) (wd [x0, x1, x2, x3, x4, x5] 4) = cnt := hc
      have e0 := wd2_wd _ hr 0
      have e2 := wd2_wd _ hr 2
      have e4 := wd2_wd _ hr 4
      show wd2 (jmpW f (f + worth (wd [x0, x1, x2, x3, x4, x5] 0))) ++ (wd2 (wd [x0, x1, x2, x3, x4, x5] 2) ++ (wd2 ((wd [x0, x1, x2, x3, x4, x5] 2 + ((tabC 6 f b2 cnt).length : Int) - 1) % 65536) ++ rowsL f (tabC 6 f b2 cnt) (matC 6 b2 cnt) (tabC 6 f b2 cnt).length)) = _
      rw [tabC_len, jmpW_at _ _ g0.1 g0.2]
      have e5 : (wd [x0, x1, x2, x3, x4, x5] 2 + (cnt : Int) - 1) % 65536 = wd [x0, x1, x2, x3, x4, x5] 4 := by
        generalize wd [x0, x1, x2, x3, x4, x5] 2 = lo at g2 hc ⊢
        generalize wd [x0, x1, x2, x3, x4, x5] 4 = hi at g4 hc ⊢
        unfold rowsT worth at hc
        split at hc <;> split at hc <;> (try split at hc) <;> omega
      rw [e5, e0, e2, e4, rowsL_6 f b2 hr2 cnt hb2 cnt (Nat.le_refl _), List.take_of_length_le (by have : b2.length = cnt * 2 := hb2; omega)]
      rfl
  · match b, hb, hr, hc with
    | [x0, x1, x2, x3], _, hr, hc =>
      have g0 := wd_rg [x0, x1, x2, x3] hr 0
      have g2 := wd_rg [x0, x1, x2, x3] hr 2
      have hc : wd [x0, x1, x2, x3] 2 = cnt := hc
      have e0 := wd2_wd _ hr 0
      have e2 := wd2_wd _ hr 2
      show wd2 (jmpW f (f + worth (wd [x0, x1, x2, x3] 0))) ++ (wd2 (((tabC 7 f b2 cnt).length : Int) % 65536) ++ rowsL f (tabC 7 f b2 cnt) (matC 7 b2 cnt) (tabC 7 f b2 cnt).length) = _
      rw [tabC_len, jmpW_at _ _ g0.1 g0.2, ← hc, Int.emod_eq_of_lt g2.1 g2.2, e0, e2, rowsL_7 f b2 hr2 cnt hb2 cnt (Nat.le_refl _), List.take_of_length_le (by have : b2.length = cnt * 4 := hb2; omega)]
      rfl
  · rw [nil2 8 rfl rfl]
    match b, hb, hr with
    | [x0, x1], _, hr =>
      have g := wd_rg [x0, x1] hr 0
      show wd2 (wd [x0, x1] 0 % 65536) = [x0, x1]
      rw [Int.emod_eq_of_lt g.1 g.2]
      exact wd2_wd [x0, x1] hr 0
  · rw [nil2 9 rfl rfl]
    match b, hb, hr with
    | [x0, x1, x2, x3], _, hr =>
      have g : 0 ≤ x0 ∧ x0 < 256 := rng_getD hr 0
      have g1 := wd_rg [x0, x1, x2, x3] hr 1
      have e1 := wd2_wd _ hr 1
      show [x0 % 256] ++ (wd2 (wd [x0, x1, x2, x3] 1 % 65536) ++ [x3]) = _
      rw [Int.emod_eq_of_lt g.1 g.2, Int.emod_eq_of_lt g1.1 g1.2, e1]
      rfl
  · rw [nil2 10 rfl rfl]
    match b, hb, hr with
    | [x0], _, hr =>
      have g : 0 ≤ x0 ∧ x0 < 256 := rng_getD hr 0
      show [x0 % 256] = [x0]
      rw [Int.emod_eq_of_lt g.1 g.2]
  · rw [nil2 11 rfl rfl]
    match b, hb, hr with
    | [x0, x1, x2], _, hr =>
      have g : 0 ≤ x0 ∧ x0 < 256 := rng_getD hr 0
      have g1 := wd_rg [x0, x1, x2] hr 1
      have e1 := wd2_wd _ hr 1
      show [x0 % 256] ++ wd2 (wd [x0, x1, x2] 1 % 65536) = _
      rw [Int.emod_eq_of_lt g.1 g.2, Int.emod_eq_of_lt g1.1 g1.2, e1]
      rfl
/-- The bytes of an instruction that was read are those that it was read of. -/
theorem put_eq (l : List Int) (i : Nat) (hr : rng l) (hi : i < l.length) (h : (insE l i).1 = 0) :
    l.take i ++ ((insE l i).2.1.sc.op :: bodyB ((ofC (insE l i).2.1.sc.op).1.imm).toNat (insE l i).2.1) = l.take (insE l i).2.2 := by
  obtain ⟨k, cnt, b, b2, h0, hk, h1, hb, hc, h3, hb2, hck, he⟩ := insE_inv l i hr h
  have ok := insE_ok l i hr hi h
  have ho := rng_getD hr i
  have hk12 : k < 12 := by
    obtain ⟨q, hq⟩ : ∃ q : Nat, l.getD i 0 = q := ⟨(l.getD i 0).toNat, by omega⟩
    rw [hq] at h0 hk
    have := (ofC_ok q (by omega) h0).2.2.1
    omega
  have hkk : ((ofC (insE l i).2.1.sc.op).1.imm).toNat = k := by rw [ok.2.1]; exact hk
  rw [hkk, ok.2.1, he]
  have hbr : rng b := by rw [← hb]; exact rng_take (rng_drop hr _) _
  have hb2r : rng b2 := by rw [← hb2]; exact rng_take (rng_drop hr _) _
  have hbl : b.length = hdS k := by rw [← hb, List.length_take, List.length_drop]; omega
  have hb2l : b2.length = cnt * rwS k := by rw [← hb2, List.length_take, List.length_drop]; omega
  show l.take i ++ (l.getD i 0 :: bodyB k ⟨headSc k i b (scI i (l.getD i 0)), tabC k i b2 cnt, matC k b2 cnt⟩) = l.take (i + 1 + hdS k + cnt * rwS k)
  have e1 : l.take (i + 1) = l.take i ++ [l.getD i 0] := by
    rw [List.take_add, List.drop_eq_getElem_cons hi, List.getD_eq_getElem?_getD, List.getElem?_eq_getElem hi]
    rfl
  have e2 : l.take (i + 1 + hdS k) = l.take (i + 1) ++ b := by rw [List.take_add, hb]
  have e3 : l.take (i + 1 + hdS k + cnt * rwS k) = l.take (i + 1 + hdS k) ++ b2 := by rw [List.take_add, hb2]
  rw [body_eq k cnt hk12 i _ b b2 hbl hbr hc hb2l hb2r, e3, e2, e1, List.append_assoc, List.append_assoc]
  rfl
end Go.Proofs.YtolifmpkillglaaGreatDoor

set_option linter.unusedVariables false
set_option maxRecDepth 100000
namespace Go.Proofs.YtolifmpkillglaaGreatDoor
open Go.RowKit
/-! CodeCuts: the walk. -/
theorem IN.rows {w : World} {m n c : Nat} {A : Option Addr} {rs : List RI} {l : List Ins} (h : IN w m A n c rs l) (hl : ∀ x ∈ l, x.tab.length ≤ 65536 ∧ x.mat.length ≤ 65536) : ∀ i, i < n → (rs.getD i RI.zero).tn ≤ 70000 ∧ (rs.getD i RI.zero).mn ≤ 70000 := by
  intro i hi
  have h1 := (h.each i hi).tab.len
  have h2 := (h.each i hi).mat.len
  have hm : l.getD i Ins.zero ∈ l := by
    rw [List.getD_eq_getElem?_getD, List.getElem?_eq_getElem (by rw [h.len]; exact hi)]
    exact List.getElem_mem _
  have := hl _ hm
  omega
theorem readF_rows (l : List Int) (hr : rng l) : ∀ (f i : Nat) (M : List Ins), readF l f i = (0, M) → ∀ x ∈ M, x.tab.length ≤ 65536 ∧ x.mat.length ≤ 65536 := by
  intro f
  induction f with
  | zero =>
    intro i M h x hx
    have : M = [] := (congrArg Prod.snd h).symm
    subst this
    cases hx
  | succ f ih =>
    intro i M h x hx
    by_cases hi : i < l.length
    · obtain ⟨he, M', hM, rfl⟩ := readF_cons l f i M hi h
      have ok := insE_ok l i hr hi he
      rcases List.mem_cons.1 hx with rfl | hx
      · refine ⟨ok.2.2.1, ?_⟩
        obtain ⟨k, cnt, b, b2, h0, hk, h1, hb, hc, h3, hb2, hck, hee⟩ := insE_inv l i hr he
        have hbd := headR_bd k b (by rw [← hb]; exact rng_take (rng_drop hr _) _)
        rw [hee]
        show (matC k b2 cnt).length ≤ 65536
        unfold matC
        split <;> simp
        omega
      · exact ih _ M' hM x hx
    · have e : readF l (f + 1) i = (0, []) := by unfold readF; rw [if_neg hi]
      rw [e] at h
      have : M = [] := (congrArg Prod.snd h).symm
      subst this
      cases hx
theorem readC_rows (l : List Int) (hr : rng l) : ∀ x ∈ (readC l).2, x.tab.length ≤ 65536 ∧ x.mat.length ≤ 65536 := by
  by_cases h : (readC l).1 = 0
  · obtain ⟨_, _, hF, _⟩ := readC_inv l h
    exact readF_rows l hr _ _ _ hF
  · rw [readC_err l h]
    intro x hx
    cases hx
theorem readC_len (l : List Int) (hr : rng l) : (readC l).2.length ≤ 2000 := by
  by_cases h : (readC l).1 = 0
  · obtain ⟨h2, _, hF, _⟩ := readC_inv l h
    have hb : ∀ (f i : Nat) (M : List Ins), readF l f i = (0, M) → i + M.length ≤ l.length ∨ M.length = 0 := by
      intro f
      induction f with
      | zero => intro i M h; have : M = [] := (congrArg Prod.snd h).symm; subst this; exact .inr rfl
      | succ f ih =>
        intro i M h
        by_cases hi : i < l.length
        · obtain ⟨he, M', hM, rfl⟩ := readF_cons l f i M hi h
          have ok := insE_ok l i hr hi he
          rcases ih _ M' hM with h3 | h3
          · left; rw [List.length_cons]; omega
          · left; rw [List.length_cons]; omega
        · have e : readF l (f + 1) i = (0, []) := by unfold readF; rw [if_neg hi]
          rw [e] at h
          have : M = [] := (congrArg Prod.snd h).symm
          subst this
          exact .inr rfl
    rcases hb _ _ _ hF with h3 | h3 <;> omega
  · rw [readC_err l h]
    simp
/-! CodeJoins: the walk. -/
theorem getD_mapsh (d : Int) (M : List Ins) (k : Nat) (h : k < M.length) : (M.map (sh d)).getD k Ins.zero = sh d (M.getD k Ins.zero) := by
  rw [List.getD_eq_getElem?_getD, List.getElem?_map, List.getElem?_eq_getElem h, List.getD_eq_getElem?_getD, List.getElem?_eq_getElem h]
  rfl
theorem getD_behind (L M : List Ins) (k : Nat) : (L ++ M).getD (L.length + k) Ins.zero = M.getD k Ins.zero := by
  rw [List.getD_eq_getElem?_getD, List.getD_eq_getElem?_getD, List.getElem?_append_right (by omega)]
  congr 2
  omega
theorem IV.rows {w : World} {B n : Nat} {A : Option Addr} {rs : List RI} {l : List Ins} (h : IV w B A n rs l) (hl : ∀ x ∈ l, x.tab.length ≤ 65536 ∧ x.mat.length ≤ 65536) : ∀ i, i < n → (rs.getD i RI.zero).tn ≤ 70000 ∧ (rs.getD i RI.zero).mn ≤ 70000 := by
  intro i hi
  have h1 := (h.each i hi).tab.len
  have h2 := (h.each i hi).mat.len
  have hm : l.getD i Ins.zero ∈ l := by
    rw [List.getD_eq_getElem?_getD, List.getElem?_eq_getElem (by rw [h.len]; exact hi)]
    exact List.getElem_mem _
  have := hl _ hm
  omega
end Go.Proofs.YtolifmpkillglaaGreatDoor

set_option linter.unusedVariables false
set_option maxRecDepth 100000
namespace Go.Proofs.YtolifmpkillglaaGreatDoor
open Go.RowKit
/-! Put, of what was read. -/
theorem put_step (l : List Int) (hr : rng l) (D : List Ins) (k i f : Nat) (hk : k < D.length) (hf : l.length ≤ i + f) (h : readF l f i = (0, D.drop k)) :
    i < l.length ∧ (insE l i).1 = 0 ∧ D.getD k Ins.zero = (insE l i).2.1 ∧ i + sizeP (insE l i).2.1 = (insE l i).2.2 ∧ (insE l i).2.2 ≤ l.length ∧ (insE l i).2.1.sc.ok ∧ ∃ f', readF l f' (insE l i).2.2 = (0, D.drop (k + 1)) ∧ l.length ≤ (insE l i).2.2 + f' := by
  have hne : D.drop k = D.getD k Ins.zero :: D.drop (k + 1) := by
    rw [List.drop_eq_getElem_cons hk, List.getD_eq_getElem?_getD, List.getElem?_eq_getElem hk]
    rfl
  by_cases hi : i < l.length
  · obtain ⟨f', rfl⟩ : ∃ f', f = f' + 1 := ⟨f - 1, by omega⟩
    obtain ⟨he, M, hM, hc⟩ := readF_cons l f' i _ hi h
    have ok := insE_ok l i hr hi he
    rw [hne] at hc
    obtain ⟨hx, hd⟩ := List.cons.inj hc
    refine ⟨hi, he, hx, ?_, ok.2.2.2.2.1, ok.2.2.2.2.2, f', by rw [hM, hd], by have := ok.2.2.2.1; omega⟩
    obtain ⟨q, cnt, b, b2, h0, hk, h1, hb, hc, h3, hb2, hck, hee⟩ := insE_inv l i hr he
    unfold sizeP
    rw [ok.2.1, if_pos h0, hk, hee]
    show i + (1 + hdS q + (tabC q i b2 cnt).length * rwS q) = i + 1 + hdS q + cnt * rwS q
    rw [tabC_len]
    omega
  · exfalso
    have e : readF l f i = (0, []) := by
      cases f with
      | zero => rfl
      | succ f => show (if i < l.length then _ else _) = _; rw [if_neg hi]
    rw [e, hne] at h
    exact absurd (congrArg Prod.snd h) (by simp)
theorem put_end (l : List Int) (D : List Ins) (k i f : Nat) (hk : D.length ≤ k) (hi : i ≤ l.length) (hf : l.length ≤ i + f) (h : readF l f i = (0, D.drop k)) : i = l.length := by
  by_cases hi2 : i < l.length
  · obtain ⟨f', rfl⟩ : ∃ f', f = f' + 1 := ⟨f - 1, by omega⟩
    obtain ⟨he, M, hM, hc⟩ := readF_cons l f' i _ hi2 h
    rw [List.drop_of_length_le hk] at hc
    cases hc
  · omega
set_option maxHeartbeats 4000000 in
theorem put_any (l : List Int) (hr : rng l) (w : World) (A : Option Addr) (n c B : Nat) (rs : List RI) (T : TE w) (he : (readC l).1 = 0) (hv : IV w B A n rs (readC l).2) (hB : B ≤ w.heap.size) :
    Calls Tryz.prog 5 #[.slice A n c] w fun e w' => ∃ A' c', e = .returned (.tuple #[.slice A' l.length c', .int .i64 0]) ∧ OS w' (Lt w.heap.size) A' l.length c' l ∧ Below w.heap.size w w' := by
  obtain ⟨hl2, hl0, hF, _⟩ := readC_inv l he
  have hrows := hv.rows (readC_rows l hr)
  have hdl := hv.len
  have hDb := readC_len l hr
  have hrc : ReadSaid 10 l (0, (readC l).2) := by
    have e0 : (0, (readC l).2) = readC l := Prod.ext he.symm rfl
    rw [e0]
    exact read_any l
  have HRC := Lib.hid hrc
  clear hrc
  generalize (readC l).2 = D at hv hF HRC hrows hdl hDb
  have HP := Lib.hid (put_step l hr D)
  have HE := Lib.hid (put_end l D)
  have HQ := Lib.hid (put_eq l)
  have HV := Lib.hid hv
  have HF := Lib.hid hF
  have HRW := Lib.hid hrows
  have HT := Lib.hid T
  have HR := Lib.hid hr
  clear hv hF hrows T he hr
  go_enter Tryz.func5, Tryz.ntmps5
  go_wp2_with fail
  go_loopw [4, 11] (fun bs j wr => ∃ (k i f : Nat) (Ab : Option Addr) (cb : Nat), k ≤ n ∧ j = .int .i64 k ∧ bs = .slice Ab i cb ∧ i ≤ l.length ∧ l.length ≤ i + f ∧ readF l f i = (0, D.drop k) ∧ OS wr (Lt w.heap.size) Ab i cb (l.take i) ∧ Below w.heap.size w wr) (fun _ j _ => n - (intOf j).toNat)
  case atStart => exact ⟨0, 0, l.length, none, 0, Nat.zero_le _, rfl, rfl, Nat.zero_le _, by omega, HF.out, OS.nil_, Below.refl _ _⟩
  case round =>
    obtain ⟨k, i, f, Ab, cb, hk, rfl, rfl, hil, hif, hrd, hO, hb⟩ := hrel
    have i0 : (0 : Int) ≤ (k : Int) := by omega
    by_cases hlt : (k : Int) < (n : Int)
    · obtain ⟨hi, hie, hx, hsz, hile, hok, f', hrd', hif'⟩ := HP.out k i f (by omega) hif hrd
      have hpe := HQ.out i HR.out hi hie
      have V := HV.out.below hb hB
      have hz := hb.size
      obtain ⟨b, o, hA, hbB, c0, c1, c2, c3, c4, c5, c6, c7, c8, c9⟩ := V.ten k (by omega)
      have R := V.each k (by omega)
      have hht := HRW.out k (by omega)
      have hbs : b < wr.heap.size := by omega
      rw [hx] at R
      generalize (insE l i).2.2 = i2 at hsz hile hrd' hif' hpe
      generalize (insE l i).2.1 = x at hsz hok hpe R hx
      generalize rs.getD k RI.zero = r at c0 c1 c2 c3 c4 c5 c6 c7 c8 c9 R hht
      obtain ⟨⟨s0, s1, s2, s3, s4, s5, s6, s7⟩, tA, tn, tc, mA, mn, mc⟩ := r
      simp only at c0 c1 c2 c3 c4 c5 c6 c7 c8 c9 hht
      have HB := Lib.hid hb
      have hsc := R.sc
      have hs1 : x.sc.op = s1 := by rw [← hsc]
      have hopr := hok.1
      have HSZ := Lib.hid (fun W (T : Tab W) (h : Below w.heap.size wr W) => size_any x ⟨⟨s0, s1, s2, s3, s4, s5, s6, s7⟩, tA, tn, tc, mA, mn, mc⟩ W B T (R.below h hB) (by omega) (by omega) hht.1)
      have HAP := Lib.hid (fun W (T : Tab W) (h : Below w.heap.size wr W) (O : OS W (Lt w.heap.size) Ab i cb (l.take i)) (hw : w.heap.size ≤ W.heap.size) => appI_any (Lt w.heap.size) Ab i cb B (l.take i) ⟨⟨s0, s1, s2, s3, s4, s5, s6, s7⟩, tA, tn, tc, mA, mn, mc⟩ x W T O (fun q hq => Nat.lt_of_lt_of_le hq hw) (R.below h hB) hok (fun q hq => Nat.lt_of_lt_of_le hq hB) (by omega) hht.1 (by omega))
      rw [RI.val_eq] at HSZ HAP
      have hO1 := hO.alloc (.cells #[.int .i64 s0, .int .u8 s1, .int .i64 s2, .int .u8 s3, .int .u16 s4, .int .i64 s5, .int .i64 s6, .slice tA tn tc, .slice mA mn mc, .int .u16 s7] 28)
      have b1 := below_new wr (.cells #[.int .i64 s0, .int .u8 s1, .int .i64 s2, .int .u8 s3, .int .u16 s4, .int .i64 s5, .int .i64 s6, .slice tA tn tc, .slice mA mn mc, .int .u16 s7] 28)
      have hz1 : (wr.alloc (.cells #[.int .i64 s0, .int .u8 s1, .int .i64 s2, .int .u8 s3, .int .u16 s4, .int .i64 s5, .int .i64 s6, .slice tA tn tc, .slice mA mn mc, .int .u16 s7] 28)).heap.size = wr.heap.size + 1 := by simp
      have HX := Lib.hid (Blk.new wr #[.int .i64 s0, .int .u8 s1, .int .i64 s2, .int .u8 s3, .int .u16 s4, .int .i64 s5, .int .i64 s6, .slice tA tn tc, .slice mA mn mc, .int .u16 s7] 28)
      subst hA
      obtain ⟨P, hP⟩ : ∃ P, sizeP x = P := ⟨_, rfl⟩
      rw [hP] at HSZ hsz
      have hsub : IntKind.i64.wrap ((2000 : Int) - (i : Int)) = 2000 - (i : Int) := IntWalk.i64_in _ (by omega)
      have hgt : decide ((P : Int) > 2000 - (i : Int)) = false := by rw [decide_eq_false_iff_not]; omega
      have hgt2 : ¬ (2000 - (i : Int)) < (P : Int) := by omega
      clear V hb R hht hO hx hsc hrd hok
      go_upto_region 5 with (fail)
      clear c0 c1 c2 c3 c4 c5 c6 c7 c8 c9
      have HB1 := Lib.hid (b1.mono hz)
      have HO := Lib.hid hO1
      have HRD := Lib.hid hrd'
      have HPE := Lib.hid hpe
      clear b1 hO1 hrd' hpe
      generalize wr.alloc (.cells #[.int .i64 s0, .int .u8 s1, .int .i64 s2, .int .u8 s3, .int .u16 s4, .int .i64 s5, .int .i64 s6, .slice tA tn tc, .slice mA mn mc, .int .u16 s7] 28) = w1 at HX HO HB1 hz1 ⊢
      have HTT := Lib.hid (HT.out.below' (HB.out.trans HB1.out))
      go_wp2_with ((with_reducible refine wpList_ldI rfl (.tmp 6) rfl HX.out ?_ ?_ ?_); exact rfl; exact rfl)
      refine (HSZ.out _ HTT.out.tab HB1.out).mono ?_
      rintro e w2 ⟨rfl, b2⟩
      have hz2 := b2.size
      have HX := Lib.hid (HX.out.below b2)
      have HB1 := Lib.hid (HB1.out.trans (b2.mono (by omega)))
      have HO := Lib.hid (HO.out.below b2)
      have HTT := Lib.hid (HT.out.below' (HB.out.trans HB1.out))
      clear b2
      go_wp2_with ((with_reducible refine wpList_ldI rfl (.tmp 6) rfl HX.out ?_ ?_ ?_); exact rfl; exact rfl)
      refine (HAP.out _ HTT.out.tab HB1.out HO.out (by omega)).mono ?_
      rintro e w3 ⟨A3, n3, c3, rfl, O3, k3⟩
      rw [HPE.out] at O3
      have hn3 : n3 = i2 := by rw [← O3.len, List.length_take]; omega
      subst hn3
      have HB := Lib.hid (HB.out.trans (HB1.out.trans k3.below'))
      have HO := Lib.hid O3
      clear O3 k3 HB1
      go_wp2_with fail
      go_roundw
      case rel => exact ⟨k + 1, _, f', _, _, by omega, by go_num, rfl, by omega, hif', HRD.out, HO.out, HB.out⟩
      case measure => simp [intOf]; omega
    · obtain rfl : k = n := by omega
      have hie := HE.out k i f (by omega) hil hif hrd
      subst hie
      rw [List.take_length] at hO
      have hz := hb.size
      have HB := Lib.hid hb
      have HO := Lib.hid hO
      have HTT := Lib.hid (HT.out.below' hb)
      have HAA := Lib.hid (HRC.out wr wr.heap.size Ab l.length cb HTT.out hO.rd hO.le (by omega) (Nat.le_refl _))
      clear hO hb hrd
      go_wp2_with fail
      refine HAA.out.mono ?_
      rintro e w5 ⟨A5, c5, rs5, rfl, N5, b5⟩
      have hz5 := b5.size
      have HB := Lib.hid (HB.out.trans (b5.mono hz))
      have HO := Lib.hid (HO.out.below b5)
      have HEQ := Lib.hid (eqf_eq D w5 A A5 _ c c5 B _ rs rs5 (HV.out.below HB.out hB) (hdl ▸ N5.iv) (by omega) (Nat.le_refl _) (by omega) HRW.out)
      clear N5 b5
      go_wp2_with fail
      refine HEQ.out.mono ?_
      rintro e w6 ⟨rfl, b6⟩
      have HB := Lib.hid (HB.out.trans (b6.mono (by omega)))
      have HO := Lib.hid (HO.out.below b6)
      clear b6 HEQ
      go_wp2_with fail
      go_returns
      exact ⟨_, _, rfl, HO.out, HB.out⟩
end Go.Proofs.YtolifmpkillglaaGreatDoor

