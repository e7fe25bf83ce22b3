import Derived.Test.YtolifmpkillglaaGreatDoorJm
import Derived.Test.YtolifmpkillglaaGreatDoorJg
import Derived.Test.YtolifmpkillglaaGreatDoorHa
import Derived.Test.YtolifmpkillglaaGreatDoorHn
import Derived.Test.YtolifmpkillglaaGreatDoorJe
import Derived.Test.YtolifmpkillglaaGreatDoorIq
import Derived.Test.YtolifmpkillglaaGreatDoorIu
import Derived.Deep.Slices
import Derived.Lib.SmallJoins
import Derived.ChangeSame
import Derived.Test.YtolifmpkillglaaGreatDoorDb
set_option linter.unusedVariables false
set_option maxRecDepth 100000
namespace Go.Proofs.YtolifmpkillglaaGreatDoor
open Go.RowKit
/-! Put of what is no code. -/
def isCode (l : List Ins) : Prop := ∃ b, rng b ∧ readC b = (0, l)
theorem body_len (k : Nat) (x : Ins) : (bodyB k x).length ≤ 6 + 4 * x.tab.length := by
  have h := rowsL_len x.sc.at_ x.tab x.mat x.tab.length
  unfold bodyB
  split <;> simp [wd2] <;> omega
set_option maxHeartbeats 4000000 in
theorem putno_any (l : List Ins) (w : World) (A : Option Addr) (n c B : Nat) (rs : List RI) (T : TE w) (hv : IV w B A n rs l) (hB : B ≤ w.heap.size) (hn : n ≤ 281474976710656) (ht : ∀ i, i < n → (rs.getD i RI.zero).tn ≤ 70000 ∧ (rs.getD i RI.zero).mn ≤ 70000) (hno : ¬ isCode l) :
    Calls Tryz.prog 5 #[.slice A n c] w fun e w' => e = .returned (.tuple #[.slice none 0 0, .int .i64 2]) ∧ Below w.heap.size w w' := by
  have HV := Lib.hid hv
  have HT := Lib.hid T
  have HRW := Lib.hid ht
  have HNO := Lib.hid hno
  clear hv T ht hno
  go_enter Tryz.func5, Tryz.ntmps5
  go_wp2_with fail
  go_loopw [4, 11] (fun bs j wr => ∃ (k i : Nat) (Ab : Option Addr) (cb : Nat) (L : List Int), k ≤ n ∧ j = .int .i64 k ∧ bs = .slice Ab i cb ∧ i ≤ 300000 ∧ OS wr (Lt w.heap.size) Ab i cb L ∧ Below w.heap.size w wr) (fun _ j _ => n - (intOf j).toNat)
  case atStart => exact ⟨0, 0, none, 0, [], Nat.zero_le _, rfl, rfl, by omega, OS.nil_, Below.refl _ _⟩
  case round =>
    obtain ⟨k, i, Ab, cb, L, hk, rfl, rfl, hil, hO, hb⟩ := hrel
    have i0 : (0 : Int) ≤ (k : Int) := by omega
    by_cases hlt : (k : Int) < (n : Int)
    · have V := HV.out.below hb hB
      have hz := hb.size
      obtain ⟨b, o, hA, hbB, c0, c1, c2, c3, c4, c5, c6, c7, c8, c9⟩ := V.ten k (by omega)
      have R := V.each k (by omega)
      have hok := allok_getD (R := riR) V.rv.rg k
      have hht := HRW.out k (by omega)
      have hbs : b < wr.heap.size := by omega
      change ((rs.getD k RI.zero).sc).ok at hok
      generalize l.getD k Ins.zero = x at R
      generalize rs.getD k RI.zero = r at c0 c1 c2 c3 c4 c5 c6 c7 c8 c9 R hht hok
      rw [R.sc] at hok
      have htl := R.tab.len
      obtain ⟨⟨s0, s1, s2, s3, s4, s5, s6, s7⟩, tA, tn, tc, mA, mn, mc⟩ := r
      simp only at c0 c1 c2 c3 c4 c5 c6 c7 c8 c9 hht htl
      have HB := Lib.hid hb
      have HSZ := Lib.hid (fun W (T : Tab W) (h : Below w.heap.size wr W) => size_any x ⟨⟨s0, s1, s2, s3, s4, s5, s6, s7⟩, tA, tn, tc, mA, mn, mc⟩ W B T (R.below h hB) hok.1.1 hok.1.2 hht.1)
      have HAP := Lib.hid (fun hi W (T : Tab W) (h : Below w.heap.size wr W) (O : OS W (Lt w.heap.size) Ab i cb L) (hw : w.heap.size ≤ W.heap.size) => appI_any (Lt w.heap.size) Ab i cb B L ⟨⟨s0, s1, s2, s3, s4, s5, s6, s7⟩, tA, tn, tc, mA, mn, mc⟩ x W T O (fun q hq => Nat.lt_of_lt_of_le hq hw) (R.below h hB) hok (fun q hq => Nat.lt_of_lt_of_le hq hB) (Nat.le_trans hB hw) hht.1 hi)
      rw [RI.val_eq] at HSZ HAP
      have hbl := body_len ((ofC x.sc.op).1.imm).toNat x
      generalize bodyB ((ofC x.sc.op).1.imm).toNat x = BB at HAP hbl
      have hO1 := hO.alloc (.cells #[.int .i64 s0, .int .u8 s1, .int .i64 s2, .int .u8 s3, .int .u16 s4, .int .i64 s5, .int .i64 s6, .slice tA tn tc, .slice mA mn mc, .int .u16 s7] 28)
      have b1 := below_new wr (.cells #[.int .i64 s0, .int .u8 s1, .int .i64 s2, .int .u8 s3, .int .u16 s4, .int .i64 s5, .int .i64 s6, .slice tA tn tc, .slice mA mn mc, .int .u16 s7] 28)
      have hz1 : (wr.alloc (.cells #[.int .i64 s0, .int .u8 s1, .int .i64 s2, .int .u8 s3, .int .u16 s4, .int .i64 s5, .int .i64 s6, .slice tA tn tc, .slice mA mn mc, .int .u16 s7] 28)).heap.size = wr.heap.size + 1 := by simp
      have HX := Lib.hid (Blk.new wr #[.int .i64 s0, .int .u8 s1, .int .i64 s2, .int .u8 s3, .int .u16 s4, .int .i64 s5, .int .i64 s6, .slice tA tn tc, .slice mA mn mc, .int .u16 s7] 28)
      subst hA
      obtain ⟨P, hP⟩ : ∃ P, sizeP x = P := ⟨_, rfl⟩
      rw [hP] at HSZ
      have hsub : IntKind.i64.wrap ((2000 : Int) - (i : Int)) = 2000 - (i : Int) := IntWalk.i64_in _ (by omega)
      have HTL := Lib.hid htl
      clear V hb R hO hP hok htl
      go_upto_region 5 with (fail)
      clear c0 c1 c2 c3 c4 c5 c6 c7 c8 c9
      have HB1 := Lib.hid (b1.mono hz)
      have HO := Lib.hid hO1
      clear b1 hO1
      generalize wr.alloc (.cells #[.int .i64 s0, .int .u8 s1, .int .i64 s2, .int .u8 s3, .int .u16 s4, .int .i64 s5, .int .i64 s6, .slice tA tn tc, .slice mA mn mc, .int .u16 s7] 28) = w1 at HX HO HB1 hz1 ⊢
      have HTT := Lib.hid (HT.out.below' (HB.out.trans HB1.out))
      go_wp2_with ((with_reducible refine wpList_ldI rfl (.tmp 6) rfl HX.out ?_ ?_ ?_); exact rfl; exact rfl)
      refine (HSZ.out _ HTT.out.tab HB1.out).mono ?_
      rintro e w2 ⟨rfl, b2⟩
      have hz2 := b2.size
      have HX := Lib.hid (HX.out.below b2)
      have HB1 := Lib.hid (HB1.out.trans (b2.mono (by omega)))
      have HO := Lib.hid (HO.out.below b2)
      have HTT := Lib.hid (HT.out.below' (HB.out.trans HB1.out))
      clear b2
      by_cases hgt : (P : Int) > 2000 - (i : Int)
      · have HBf := Lib.hid (HB.out.trans HB1.out)
        go_wp2_with fail
        go_returns
        exact ⟨rfl, HBf.out⟩
      · have hi2 : i ≤ 2000 := by omega
        go_wp2_with ((with_reducible refine wpList_ldI rfl (.tmp 6) rfl HX.out ?_ ?_ ?_); exact rfl; exact rfl)
        refine (HAP.out (by omega) _ HTT.out.tab HB1.out HO.out (by omega)).mono ?_
        rintro e w3 ⟨A3, n3, c3, rfl, O3, k3⟩
        have hn3 : n3 ≤ 300000 := by
          rw [← O3.len, List.length_append, HO.out.len, List.length_cons]
          have := HTL.out
          omega
        have HB := Lib.hid (HB.out.trans (HB1.out.trans k3.below'))
        have HO := Lib.hid O3
        clear O3 k3 HB1
        go_wp2_with fail
        go_roundw
        case rel => exact ⟨k + 1, n3, A3, c3, _, by omega, by go_num, rfl, hn3, HO.out, HB.out⟩
        case measure => simp [intOf]; omega
    · obtain rfl : k = n := by omega
      have hz := hb.size
      have HB := Lib.hid hb
      have HO := Lib.hid hO
      have HTT := Lib.hid (HT.out.below' hb)
      have hRL := readC_rows L hO.rd.rg
      have hDl := readC_len L hO.rd.rg
      have hno : (readC L).1 = 0 → ¬ l = (readC L).2 := fun h0 hE => HNO.out ⟨L, hO.rd.rg, by rw [hE, ← h0]⟩
      have HAA := Lib.hid (read_any L wr wr.heap.size Ab i cb HTT.out hO.rd hO.le (by omega) (Nat.le_refl _))
      generalize readC L = R at HAA hRL hno hDl
      obtain ⟨E, D⟩ := R
      simp only at HAA hRL hno hDl
      have HRL := Lib.hid hRL
      have HN2 := Lib.hid hno
      clear hO hb hRL hno
      go_wp2_with fail
      refine HAA.out.mono ?_
      rintro e w5 ⟨A5, c5, rs5, rfl, N5, b5⟩
      have hz5 := b5.size
      have HB := Lib.hid (HB.out.trans (b5.mono hz))
      by_cases hE : E = 0
      · subst hE
        have HEQ := Lib.hid (eqf_u l D w5 A A5 k D.length c c5 B _ rs rs5 (HV.out.below HB.out hB) N5.iv (by omega) (Nat.le_refl _) (by omega) (by omega) HRW.out (IV.rows N5.iv HRL.out))
        clear N5 b5
        go_wp2_with fail
        refine HEQ.out.mono ?_
        rintro e w6 ⟨⟨bb, rfl, hbb⟩, b6⟩
        have HB := Lib.hid (HB.out.trans (b6.mono (by omega)))
        clear b6 HEQ
        cases bb
        · clear hbb
          go_wp2_with fail
          go_returns
          exact ⟨rfl, HB.out⟩
        · exact absurd (hbb rfl) (HN2.out trivial)
      · have hne : (E != 0) = true := by simpa using hE
        clear N5 b5 hE
        go_wp2_with fail
        go_returns
        exact ⟨rfl, HB.out⟩
end Go.Proofs.YtolifmpkillglaaGreatDoor

set_option linter.unusedVariables false
set_option maxRecDepth 100000
namespace Go.Proofs.YtolifmpkillglaaGreatDoor
open Go.RowKit
/-! The document's word: two bytes. -/
theorem wd2_rng (v : Int) : rng (wd2 v) := by
  intro y hy
  unfold wd2 at hy
  simp only [List.mem_cons, List.not_mem_nil, or_false] at hy
  omega
theorem wd2_cong (z v : Int) (h : z % 65536 = v % 65536) : wd2 z = wd2 v := by
  unfold wd2
  rw [show z / 256 % 256 = v / 256 % 256 by omega, show z % 256 = v % 256 by omega]
theorem i64_mod (z : Int) : IntKind.i64.wrap z % 65536 = z % 65536 := by
  simp only [IntKind.wrap, IntKind.bits, IntKind.signed]
  simp
  omega
theorem rd_litJ (w : World) (zs : List Int) (n : Nat) (hn : zs.length = n) (hm : n ≤ maxLen) (hr : rng zs) : Rd (w.alloc (.cells (BL zs) 5)) (w.heap.size + 1) (some ⟨w.heap.size, 0, none⟩) n zs := by
  have h := (lit_ob w zs n hn hm hr).rd
  simpa using h
theorem refword_any (z v : Int) (w : World) (hz : z % 65536 = v % 65536) :
    Calls Tryz.prog 29 #[.int .i64 z] w fun e w' => ∃ A', e = .returned (.slice A' 2 2) ∧ Rd w' w'.heap.size A' 2 (wd2 v) ∧ Below w.heap.size w w' := by
  rw [← wd2_cong z v hz]
  have hw8 : ∀ z : Int, IntKind.u8.wrap z = z % 256 := fun z => by simp [IntKind.wrap, IntKind.bits, IntKind.signed]
  go_enter Tryz.func29, Tryz.ntmps29
  go_wp2_with fail
  go_returns
  have h := (lit_ob w (wd2 z) 2 rfl (by simp [maxLen]) (wd2_rng z)).rd
  exact ⟨_, rfl, h, below_new _ _⟩
end Go.Proofs.YtolifmpkillglaaGreatDoor

set_option linter.unusedVariables false
set_option maxRecDepth 100000
namespace Go.Proofs.YtolifmpkillglaaGreatDoor
open Go.RowKit
/-! The document's bytes of one instruction. Printed by tools/genJp.py. -/
def rowsJ (f : Int) (T : List Int) : Nat → List Int
  | 0 => []
  | k + 1 => rowsJ f T k ++ wd2 (jmpW f (T.getD k 0))
def rowsM (f : Int) (T M : List Int) : Nat → List Int
  | 0 => []
  | k + 1 => rowsM f T M k ++ (wd2 (M.getD k 0) ++ wd2 (jmpW f (T.getD k 0)))
theorem rowsJ_len (f : Int) (T : List Int) : ∀ k, (rowsJ f T k).length = 2 * k
  | 0 => rfl
  | k + 1 => by unfold rowsJ; rw [List.length_append, rowsJ_len f T k]; simp [wd2]; omega
theorem rowsM_len (f : Int) (T M : List Int) : ∀ k, (rowsM f T M k).length = 4 * k
  | 0 => rfl
  | k + 1 => by unfold rowsM; rw [List.length_append, List.length_append, rowsM_len f T M k]; simp [wd2]; omega
def bodyD (k : Nat) (x : Ins) : List Int := match k with
  | 6 => wd2 (jmpW x.sc.at_ x.sc.jump) ++ (wd2 x.sc.low ++ (wd2 ((x.sc.low + x.tab.length - 1) % 65536) ++ rowsJ x.sc.at_ x.tab x.tab.length))
  | 7 => wd2 (jmpW x.sc.at_ x.sc.jump) ++ (wd2 ((x.tab.length : Int) % 65536) ++ rowsM x.sc.at_ x.tab x.mat x.tab.length)
  | k => bodyB k x
def bytesD (x : Ins) : List Int := if (ofC x.sc.op).2 = 0 then x.sc.op :: bodyD ((ofC x.sc.op).1.imm).toNat x else []
theorem w64_mod (z : Int) : wrap64 z % 65536 = z % 65536 := by unfold wrap64; omega
theorem jmp_w64 (f t : Int) : wrap64 (t - f) % 65536 = jmpW f t % 65536 := by
  rw [w64_mod]; unfold jmpW; omega
theorem jmp_i64 (f t : Int) : IntKind.i64.wrap (t - f) % 65536 = jmpW f t % 65536 := by
  rw [i64_mod]; unfold jmpW; omega
set_option maxHeartbeats 8000000 in
theorem refbytes_any (x : Ins) (r : RI) (w : World) (B : Nat) (T : Tab w) (h : InsR w B r x) (hB : B ≤ w.heap.size) (hok : x.sc.ok) (hn : r.tn ≤ 70000) (hm : r.mn ≤ 70000) :
    Calls Tryz.prog 14 #[r.val] w fun e w' => ∃ A' N c', e = .returned (.slice A' N c') ∧ OS w' (Lt w.heap.size) A' N c' (bytesD x) ∧ Below w.heap.size w w' := by
  obtain ⟨hsc, ht, hmt, hle, hle2⟩ := h
  obtain ⟨⟨s0, s1, s2, s3, s4, s5, s6, s7⟩, tA, tn, tc, mA, mn, mc⟩ := r
  obtain ⟨sc, tab, mat⟩ := x
  simp only at hsc
  subst hsc
  unfold bytesD RI.val
  simp only at ht hmt hle hle2 hn hm hok ⊢
  obtain ⟨⟨ok1, ok2⟩, ⟨ok3, ok4⟩, ⟨ok5, ok6⟩, ⟨ok7, ok8⟩⟩ := hok
  simp only at ok1 ok2 ok3 ok4 ok5 ok6 ok7 ok8
  have hlt := ht.len
  have hlm := hmt.len
  have HOF := Lib.hid (refofC_any s1 ok1 ok2)
  obtain ⟨k, hk, hk12⟩ : ∃ k : Nat, (ofC s1).1.imm = k ∧ k < 12 := by
    obtain ⟨q, rfl⟩ : ∃ q : Nat, s1 = q := ⟨s1.toNat, by omega⟩
    have := kI_lt q (by omega)
    exact ⟨_, this.1, this.2⟩
  have hkn : ((ofC s1).1.imm).toNat = k := by rw [hk]; rfl
  rw [hkn]
  rcases hof : ofC s1 with ⟨⟨x0, x1, x2, x3, x4, x5, x6⟩, er⟩
  rw [hof] at HOF hk
  unfold OfSaid at HOF
  simp only [Inf.val] at HOF
  simp only at hk ⊢
  subst hk
  clear hof hkn
  have HTA := Lib.hid ht
  have HMA := Lib.hid hmt
  have HLT := Lib.hid hlt
  have HLM := Lib.hid hlm
  have HT := Lib.hid (T.alloc (.cells #[.int .i64 s0, .int .u8 s1, .int .i64 s2, .int .u8 s3, .int .u16 s4, .int .i64 s5, .int .i64 s6, .slice tA tn tc, .slice mA mn mc, .int .u16 s7] 28))
  have HY := Lib.hid (Blk.new w #[.int .i64 s0, .int .u8 s1, .int .i64 s2, .int .u8 s3, .int .u16 s4, .int .i64 s5, .int .i64 s6, .slice tA tn tc, .slice mA mn mc, .int .u16 s7] 28)
  have HK := Lib.hid (below_new w (.cells #[.int .i64 s0, .int .u8 s1, .int .i64 s2, .int .u8 s3, .int .u16 s4, .int .i64 s5, .int .i64 s6, .slice tA tn tc, .slice mA mn mc, .int .u16 s7] 28))
  have hsz : (w.alloc (.cells #[.int .i64 s0, .int .u8 s1, .int .i64 s2, .int .u8 s3, .int .u16 s4, .int .i64 s5, .int .i64 s6, .slice tA tn tc, .slice mA mn mc, .int .u16 s7] 28)).heap.size = w.heap.size + 1 := by simp
  have hw8 : ∀ z : Int, IntKind.u8.wrap z = z % 256 := fun z => by simp [IntKind.wrap, IntKind.bits, IntKind.signed]
  clear T ht hmt hlt hlm
  generalize hRES : (if er = 0 then s1 :: bodyD k ⟨⟨s0, s1, s2, s3, s4, s5, s6, s7⟩, tab, mat⟩ else []) = RES
  have HRES := Lib.hid hRES
  clear hRES
  go_enter Tryz.func14, Tryz.ntmps14
  go_upto_region 1 with (fail)
  generalize w.alloc (.cells #[.int .i64 s0, .int .u8 s1, .int .i64 s2, .int .u8 s3, .int .u16 s4, .int .i64 s5, .int .i64 s6, .slice tA tn tc, .slice mA mn mc, .int .u16 s7] 28) = w1 at HT HY HK hsz ⊢
  have y1 : w1.cell? ⟨w.heap.size, 1, none⟩ = some (.int .u8 s1) := HY.out.cell 1
  go_wp2_with fail
  refine (HOF.out _ HT.out).mono ?_
  rintro e w2 ⟨rfl, b2⟩
  have hz2 := b2.size
  have HY := Lib.hid ((HY.out.below b2).alloc (.cells #[.int .u8 x0, .string ⟨x1.toArray⟩, .int .u8 k, .int .i64 x3, .int .i64 x4, .bool x5, .bool x6] 46))
  have HK := Lib.hid ((HK.out.trans (b2.mono (by omega))).alloc (by omega) (.cells #[.int .u8 x0, .string ⟨x1.toArray⟩, .int .u8 k, .int .i64 x3, .int .i64 x4, .bool x5, .bool x6] 46))
  have HI := Lib.hid (Blk.new w2 #[.int .u8 x0, .string ⟨x1.toArray⟩, .int .u8 k, .int .i64 x3, .int .i64 x4, .bool x5, .bool x6] 46)
  clear b2 y1 HT
  go_upto_region 2 with (fail)
  generalize w2.alloc (.cells #[.int .u8 x0, .string ⟨x1.toArray⟩, .int .u8 k, .int .i64 x3, .int .i64 x4, .bool x5, .bool x6] 46) = w3 at HY HK HI ⊢
  have hz3 := HK.out.size
  clear hsz hz2
  have q2 : w3.cell? ⟨w2.heap.size, 2, none⟩ = some (.int .u8 k) := HI.out.cell 2
  have y1 : w3.cell? ⟨w.heap.size, 1, none⟩ = some (.int .u8 s1) := HY.out.cell 1
  by_cases her : er = 0
  · subst her
    have hRR := HRES.out
    rw [if_pos rfl] at hRR
    have HRR := Lib.hid hRR
    clear hRR HRES
    have HB := Lib.hid ((Below.refl w3.heap.size w3).alloc (Nat.le_refl _) (.cells #[.int .u8 s1] 5))
    have ho1 := OS.fresh w3 (Lt w3.heap.size) (fun h => Nat.lt_irrefl _ h) [s1] 1 rfl (by simp [maxLen]) (by intro y hy; simp at hy; omega)
    rw [show BL [s1] = #[.int .u8 s1] from rfl] at ho1
    have HO := Lib.hid ho1
    clear ho1
    go_upto_region 5 with (fail)
    generalize w3.alloc (.cells #[.int .u8 s1] 5) = W at HO HB ⊢
    have hzW := HB.out.size
    have q2 : W.cell? ⟨w2.heap.size, 2, none⟩ = some (.int .u8 k) := (HI.out.below HB.out).cell 2
    clear y1
    have h12 : k = 0 ∨ k = 1 ∨ k = 2 ∨ k = 3 ∨ k = 4 ∨ k = 5 ∨ k = 6 ∨ k = 7 ∨ k = 8 ∨ k = 9 ∨ k = 10 ∨ k = 11 := by omega
    clear hk12
    rcases h12 with rfl | rfl | rfl | rfl | rfl | rfl | rfl | rfl | rfl | rfl | rfl | rfl
    · -- kind 0
      have y0 : W.cell? ⟨w.heap.size, 0, none⟩ = some (.int .i64 s0) := (HY.out.below HB.out).cell 0; have y2 : W.cell? ⟨w.heap.size, 2, none⟩ = some (.int .i64 s2) := (HY.out.below HB.out).cell 2; have y3 : W.cell? ⟨w.heap.size, 3, none⟩ = some (.int .u8 s3) := (HY.out.below HB.out).cell 3; have y4 : W.cell? ⟨w.heap.size, 4, none⟩ = some (.int .u16 s4) := (HY.out.below HB.out).cell 4; have y5 : W.cell? ⟨w.heap.size, 5, none⟩ = some (.int .i64 s5) := (HY.out.below HB.out).cell 5; have y6 : W.cell? ⟨w.heap.size, 6, none⟩ = some (.int .i64 s6) := (HY.out.below HB.out).cell 6; have y7 : W.cell? ⟨w.heap.size, 7, none⟩ = some (.slice tA tn tc) := (HY.out.below HB.out).cell 7; have y8 : W.cell? ⟨w.heap.size, 8, none⟩ = some (.slice mA mn mc) := (HY.out.below HB.out).cell 8; have y9 : W.cell? ⟨w.heap.size, 9, none⟩ = some (.int .u16 s7) := (HY.out.below HB.out).cell 9
      go_wp2_with fail
      go_returns
      rw [← HRR.out]
      exact ⟨_, _, _, rfl, by have := HO.out.less (S' := Lt w.heap.size) (fun q hq => Nat.lt_of_lt_of_le hq hz3); simpa [List.append_assoc, bodyD, bodyB] using this, HK.out.trans (HB.out.mono hz3)⟩
    · -- kind 1
      have y0 : W.cell? ⟨w.heap.size, 0, none⟩ = some (.int .i64 s0) := (HY.out.below HB.out).cell 0; have y2 : W.cell? ⟨w.heap.size, 2, none⟩ = some (.int .i64 s2) := (HY.out.below HB.out).cell 2; have y3 : W.cell? ⟨w.heap.size, 3, none⟩ = some (.int .u8 s3) := (HY.out.below HB.out).cell 3; have y4 : W.cell? ⟨w.heap.size, 4, none⟩ = some (.int .u16 s4) := (HY.out.below HB.out).cell 4; have y5 : W.cell? ⟨w.heap.size, 5, none⟩ = some (.int .i64 s5) := (HY.out.below HB.out).cell 5; have y6 : W.cell? ⟨w.heap.size, 6, none⟩ = some (.int .i64 s6) := (HY.out.below HB.out).cell 6; have y7 : W.cell? ⟨w.heap.size, 7, none⟩ = some (.slice tA tn tc) := (HY.out.below HB.out).cell 7; have y8 : W.cell? ⟨w.heap.size, 8, none⟩ = some (.slice mA mn mc) := (HY.out.below HB.out).cell 8; have y9 : W.cell? ⟨w.heap.size, 9, none⟩ = some (.int .u16 s7) := (HY.out.below HB.out).cell 9
      have hrd := Lib.hid (rd_litJ W [s4 % 256] 1 rfl (by simp [maxLen]) (by intro y hy; simp at hy; omega))
      go_wp2_with (at_builtin; refine wpList_appS rfl _ _ rfl (Lt w3.heap.size) _ 1 _ _ rfl (HO.out.alloc _) _ _ 1 1 [s4 % 256] rfl hrd.out 2 rfl _ rfl (by omega) (fun q hq => by have h2 : q < w3.heap.size := hq; simp; omega) ?_; intro A1 c1 v1 o5 k5; have HB := Lib.hid ((HB.out.alloc HB.out.size _).trans (k5.below fun q hq => hq)); have HO := Lib.hid o5; clear o5 k5 hrd y0 y2 y3 y4 y5 y6 y7 y8 y9; have hzW := HB.out.size; have y0 : v1.cell? ⟨w.heap.size, 0, none⟩ = some (.int .i64 s0) := (HY.out.below HB.out).cell 0; have y2 : v1.cell? ⟨w.heap.size, 2, none⟩ = some (.int .i64 s2) := (HY.out.below HB.out).cell 2; have y3 : v1.cell? ⟨w.heap.size, 3, none⟩ = some (.int .u8 s3) := (HY.out.below HB.out).cell 3; have y4 : v1.cell? ⟨w.heap.size, 4, none⟩ = some (.int .u16 s4) := (HY.out.below HB.out).cell 4; have y5 : v1.cell? ⟨w.heap.size, 5, none⟩ = some (.int .i64 s5) := (HY.out.below HB.out).cell 5; have y6 : v1.cell? ⟨w.heap.size, 6, none⟩ = some (.int .i64 s6) := (HY.out.below HB.out).cell 6; have y7 : v1.cell? ⟨w.heap.size, 7, none⟩ = some (.slice tA tn tc) := (HY.out.below HB.out).cell 7; have y8 : v1.cell? ⟨w.heap.size, 8, none⟩ = some (.slice mA mn mc) := (HY.out.below HB.out).cell 8; have y9 : v1.cell? ⟨w.heap.size, 9, none⟩ = some (.int .u16 s7) := (HY.out.below HB.out).cell 9)
      go_returns
      rw [← HRR.out]
      exact ⟨_, _, _, rfl, by have := HO.out.less (S' := Lt w.heap.size) (fun q hq => Nat.lt_of_lt_of_le hq hz3); simpa [List.append_assoc, bodyD, bodyB] using this, HK.out.trans (HB.out.mono hz3)⟩
    · -- kind 2
      have y0 : W.cell? ⟨w.heap.size, 0, none⟩ = some (.int .i64 s0) := (HY.out.below HB.out).cell 0; have y2 : W.cell? ⟨w.heap.size, 2, none⟩ = some (.int .i64 s2) := (HY.out.below HB.out).cell 2; have y3 : W.cell? ⟨w.heap.size, 3, none⟩ = some (.int .u8 s3) := (HY.out.below HB.out).cell 3; have y4 : W.cell? ⟨w.heap.size, 4, none⟩ = some (.int .u16 s4) := (HY.out.below HB.out).cell 4; have y5 : W.cell? ⟨w.heap.size, 5, none⟩ = some (.int .i64 s5) := (HY.out.below HB.out).cell 5; have y6 : W.cell? ⟨w.heap.size, 6, none⟩ = some (.int .i64 s6) := (HY.out.below HB.out).cell 6; have y7 : W.cell? ⟨w.heap.size, 7, none⟩ = some (.slice tA tn tc) := (HY.out.below HB.out).cell 7; have y8 : W.cell? ⟨w.heap.size, 8, none⟩ = some (.slice mA mn mc) := (HY.out.below HB.out).cell 8; have y9 : W.cell? ⟨w.heap.size, 9, none⟩ = some (.int .u16 s7) := (HY.out.below HB.out).cell 9
      go_wp2_with fail
      refine (refword_any _ s4 W (by first | rfl | exact jmp_w64 _ _ | exact jmp_i64 _ _ | omega | (rw [HLT.out]; omega) | (simp only [w64_mod]; omega))).mono ?_
      rintro e u1 ⟨B1, rfl, hrd, b2⟩
      have HRD := Lib.hid hrd
      have HO := Lib.hid (HO.out.below b2)
      have HB := Lib.hid (HB.out.trans (b2.mono hzW))
      have hzW := HB.out.size
      clear hrd b2 y0 y2 y3 y4 y5 y6 y7 y8 y9
      go_wp2_with (at_builtin; refine wpList_appS rfl _ _ rfl (Lt w3.heap.size) _ 1 _ _ rfl HO.out _ _ 2 2 _ rfl HRD.out 3 rfl _ rfl (by omega) (fun q hq => Nat.lt_of_lt_of_le hq hzW) ?_; intro A1 c1 v1 o5 k5; have HB := Lib.hid (HB.out.trans (k5.below fun q hq => hq)); have HO := Lib.hid o5; clear o5 k5 HRD; have hzW := HB.out.size; have y0 : v1.cell? ⟨w.heap.size, 0, none⟩ = some (.int .i64 s0) := (HY.out.below HB.out).cell 0; have y2 : v1.cell? ⟨w.heap.size, 2, none⟩ = some (.int .i64 s2) := (HY.out.below HB.out).cell 2; have y3 : v1.cell? ⟨w.heap.size, 3, none⟩ = some (.int .u8 s3) := (HY.out.below HB.out).cell 3; have y4 : v1.cell? ⟨w.heap.size, 4, none⟩ = some (.int .u16 s4) := (HY.out.below HB.out).cell 4; have y5 : v1.cell? ⟨w.heap.size, 5, none⟩ = some (.int .i64 s5) := (HY.out.below HB.out).cell 5; have y6 : v1.cell? ⟨w.heap.size, 6, none⟩ = some (.int .i64 s6) := (HY.out.below HB.out).cell 6; have y7 : v1.cell? ⟨w.heap.size, 7, none⟩ = some (.slice tA tn tc) := (HY.out.below HB.out).cell 7; have y8 : v1.cell? ⟨w.heap.size, 8, none⟩ = some (.slice mA mn mc) := (HY.out.below HB.out).cell 8; have y9 : v1.cell? ⟨w.heap.size, 9, none⟩ = some (.int .u16 s7) := (HY.out.below HB.out).cell 9)
      go_returns
      rw [← HRR.out]
      exact ⟨_, _, _, rfl, by have := HO.out.less (S' := Lt w.heap.size) (fun q hq => Nat.lt_of_lt_of_le hq hz3); simpa [List.append_assoc, bodyD, bodyB] using this, HK.out.trans (HB.out.mono hz3)⟩
    · -- kind 3
      have y0 : W.cell? ⟨w.heap.size, 0, none⟩ = some (.int .i64 s0) := (HY.out.below HB.out).cell 0; have y2 : W.cell? ⟨w.heap.size, 2, none⟩ = some (.int .i64 s2) := (HY.out.below HB.out).cell 2; have y3 : W.cell? ⟨w.heap.size, 3, none⟩ = some (.int .u8 s3) := (HY.out.below HB.out).cell 3; have y4 : W.cell? ⟨w.heap.size, 4, none⟩ = some (.int .u16 s4) := (HY.out.below HB.out).cell 4; have y5 : W.cell? ⟨w.heap.size, 5, none⟩ = some (.int .i64 s5) := (HY.out.below HB.out).cell 5; have y6 : W.cell? ⟨w.heap.size, 6, none⟩ = some (.int .i64 s6) := (HY.out.below HB.out).cell 6; have y7 : W.cell? ⟨w.heap.size, 7, none⟩ = some (.slice tA tn tc) := (HY.out.below HB.out).cell 7; have y8 : W.cell? ⟨w.heap.size, 8, none⟩ = some (.slice mA mn mc) := (HY.out.below HB.out).cell 8; have y9 : W.cell? ⟨w.heap.size, 9, none⟩ = some (.int .u16 s7) := (HY.out.below HB.out).cell 9
      have hrd := Lib.hid (rd_litJ W [s2 % 256] 1 rfl (by simp [maxLen]) (by intro y hy; simp at hy; omega))
      go_wp2_with (at_builtin; refine wpList_appS rfl _ _ rfl (Lt w3.heap.size) _ 1 _ _ rfl (HO.out.alloc _) _ _ 1 1 [s2 % 256] rfl hrd.out 2 rfl _ rfl (by omega) (fun q hq => by have h2 : q < w3.heap.size := hq; simp; omega) ?_; intro A1 c1 v1 o5 k5; have HB := Lib.hid ((HB.out.alloc HB.out.size _).trans (k5.below fun q hq => hq)); have HO := Lib.hid o5; clear o5 k5 hrd y0 y2 y3 y4 y5 y6 y7 y8 y9; have hzW := HB.out.size; have y0 : v1.cell? ⟨w.heap.size, 0, none⟩ = some (.int .i64 s0) := (HY.out.below HB.out).cell 0; have y2 : v1.cell? ⟨w.heap.size, 2, none⟩ = some (.int .i64 s2) := (HY.out.below HB.out).cell 2; have y3 : v1.cell? ⟨w.heap.size, 3, none⟩ = some (.int .u8 s3) := (HY.out.below HB.out).cell 3; have y4 : v1.cell? ⟨w.heap.size, 4, none⟩ = some (.int .u16 s4) := (HY.out.below HB.out).cell 4; have y5 : v1.cell? ⟨w.heap.size, 5, none⟩ = some (.int .i64 s5) := (HY.out.below HB.out).cell 5; have y6 : v1.cell? ⟨w.heap.size, 6, none⟩ = some (.int .i64 s6) := (HY.out.below HB.out).cell 6; have y7 : v1.cell? ⟨w.heap.size, 7, none⟩ = some (.slice tA tn tc) := (HY.out.below HB.out).cell 7; have y8 : v1.cell? ⟨w.heap.size, 8, none⟩ = some (.slice mA mn mc) := (HY.out.below HB.out).cell 8; have y9 : v1.cell? ⟨w.heap.size, 9, none⟩ = some (.int .u16 s7) := (HY.out.below HB.out).cell 9)
      go_returns
      rw [← HRR.out]
      exact ⟨_, _, _, rfl, by have := HO.out.less (S' := Lt w.heap.size) (fun q hq => Nat.lt_of_lt_of_le hq hz3); simpa [List.append_assoc, bodyD, bodyB] using this, HK.out.trans (HB.out.mono hz3)⟩
    · -- kind 4
      have y0 : W.cell? ⟨w.heap.size, 0, none⟩ = some (.int .i64 s0) := (HY.out.below HB.out).cell 0; have y2 : W.cell? ⟨w.heap.size, 2, none⟩ = some (.int .i64 s2) := (HY.out.below HB.out).cell 2; have y3 : W.cell? ⟨w.heap.size, 3, none⟩ = some (.int .u8 s3) := (HY.out.below HB.out).cell 3; have y4 : W.cell? ⟨w.heap.size, 4, none⟩ = some (.int .u16 s4) := (HY.out.below HB.out).cell 4; have y5 : W.cell? ⟨w.heap.size, 5, none⟩ = some (.int .i64 s5) := (HY.out.below HB.out).cell 5; have y6 : W.cell? ⟨w.heap.size, 6, none⟩ = some (.int .i64 s6) := (HY.out.below HB.out).cell 6; have y7 : W.cell? ⟨w.heap.size, 7, none⟩ = some (.slice tA tn tc) := (HY.out.below HB.out).cell 7; have y8 : W.cell? ⟨w.heap.size, 8, none⟩ = some (.slice mA mn mc) := (HY.out.below HB.out).cell 8; have y9 : W.cell? ⟨w.heap.size, 9, none⟩ = some (.int .u16 s7) := (HY.out.below HB.out).cell 9
      have hrd := Lib.hid (rd_litJ W [s2 % 256, s3] 2 rfl (by simp [maxLen]) (by intro y hy; simp at hy; omega))
      go_wp2_with (at_builtin; refine wpList_appS rfl _ _ rfl (Lt w3.heap.size) _ 1 _ _ rfl (HO.out.alloc _) _ _ 2 2 [s2 % 256, s3] rfl hrd.out 3 rfl _ rfl (by omega) (fun q hq => by have h2 : q < w3.heap.size := hq; simp; omega) ?_; intro A1 c1 v1 o5 k5; have HB := Lib.hid ((HB.out.alloc HB.out.size _).trans (k5.below fun q hq => hq)); have HO := Lib.hid o5; clear o5 k5 hrd y0 y2 y3 y4 y5 y6 y7 y8 y9; have hzW := HB.out.size; have y0 : v1.cell? ⟨w.heap.size, 0, none⟩ = some (.int .i64 s0) := (HY.out.below HB.out).cell 0; have y2 : v1.cell? ⟨w.heap.size, 2, none⟩ = some (.int .i64 s2) := (HY.out.below HB.out).cell 2; have y3 : v1.cell? ⟨w.heap.size, 3, none⟩ = some (.int .u8 s3) := (HY.out.below HB.out).cell 3; have y4 : v1.cell? ⟨w.heap.size, 4, none⟩ = some (.int .u16 s4) := (HY.out.below HB.out).cell 4; have y5 : v1.cell? ⟨w.heap.size, 5, none⟩ = some (.int .i64 s5) := (HY.out.below HB.out).cell 5; have y6 : v1.cell? ⟨w.heap.size, 6, none⟩ = some (.int .i64 s6) := (HY.out.below HB.out).cell 6; have y7 : v1.cell? ⟨w.heap.size, 7, none⟩ = some (.slice tA tn tc) := (HY.out.below HB.out).cell 7; have y8 : v1.cell? ⟨w.heap.size, 8, none⟩ = some (.slice mA mn mc) := (HY.out.below HB.out).cell 8; have y9 : v1.cell? ⟨w.heap.size, 9, none⟩ = some (.int .u16 s7) := (HY.out.below HB.out).cell 9)
      go_returns
      rw [← HRR.out]
      exact ⟨_, _, _, rfl, by have := HO.out.less (S' := Lt w.heap.size) (fun q hq => Nat.lt_of_lt_of_le hq hz3); simpa [List.append_assoc, bodyD, bodyB] using this, HK.out.trans (HB.out.mono hz3)⟩
    · -- kind 5
      have y0 : W.cell? ⟨w.heap.size, 0, none⟩ = some (.int .i64 s0) := (HY.out.below HB.out).cell 0; have y2 : W.cell? ⟨w.heap.size, 2, none⟩ = some (.int .i64 s2) := (HY.out.below HB.out).cell 2; have y3 : W.cell? ⟨w.heap.size, 3, none⟩ = some (.int .u8 s3) := (HY.out.below HB.out).cell 3; have y4 : W.cell? ⟨w.heap.size, 4, none⟩ = some (.int .u16 s4) := (HY.out.below HB.out).cell 4; have y5 : W.cell? ⟨w.heap.size, 5, none⟩ = some (.int .i64 s5) := (HY.out.below HB.out).cell 5; have y6 : W.cell? ⟨w.heap.size, 6, none⟩ = some (.int .i64 s6) := (HY.out.below HB.out).cell 6; have y7 : W.cell? ⟨w.heap.size, 7, none⟩ = some (.slice tA tn tc) := (HY.out.below HB.out).cell 7; have y8 : W.cell? ⟨w.heap.size, 8, none⟩ = some (.slice mA mn mc) := (HY.out.below HB.out).cell 8; have y9 : W.cell? ⟨w.heap.size, 9, none⟩ = some (.int .u16 s7) := (HY.out.below HB.out).cell 9
      go_wp2_with fail
      refine (refword_any _ (jmpW s0 s6) W (by first | rfl | exact jmp_w64 _ _ | exact jmp_i64 _ _ | omega | (rw [HLT.out]; omega) | (simp only [w64_mod]; omega))).mono ?_
      rintro e u1 ⟨B1, rfl, hrd, b2⟩
      have HRD := Lib.hid hrd
      have HO := Lib.hid (HO.out.below b2)
      have HB := Lib.hid (HB.out.trans (b2.mono hzW))
      have hzW := HB.out.size
      clear hrd b2 y0 y2 y3 y4 y5 y6 y7 y8 y9
      go_wp2_with (at_builtin; refine wpList_appS rfl _ _ rfl (Lt w3.heap.size) _ 1 _ _ rfl HO.out _ _ 2 2 _ rfl HRD.out 3 rfl _ rfl (by omega) (fun q hq => Nat.lt_of_lt_of_le hq hzW) ?_; intro A1 c1 v1 o5 k5; have HB := Lib.hid (HB.out.trans (k5.below fun q hq => hq)); have HO := Lib.hid o5; clear o5 k5 HRD; have hzW := HB.out.size; have y0 : v1.cell? ⟨w.heap.size, 0, none⟩ = some (.int .i64 s0) := (HY.out.below HB.out).cell 0; have y2 : v1.cell? ⟨w.heap.size, 2, none⟩ = some (.int .i64 s2) := (HY.out.below HB.out).cell 2; have y3 : v1.cell? ⟨w.heap.size, 3, none⟩ = some (.int .u8 s3) := (HY.out.below HB.out).cell 3; have y4 : v1.cell? ⟨w.heap.size, 4, none⟩ = some (.int .u16 s4) := (HY.out.below HB.out).cell 4; have y5 : v1.cell? ⟨w.heap.size, 5, none⟩ = some (.int .i64 s5) := (HY.out.below HB.out).cell 5; have y6 : v1.cell? ⟨w.heap.size, 6, none⟩ = some (.int .i64 s6) := (HY.out.below HB.out).cell 6; have y7 : v1.cell? ⟨w.heap.size, 7, none⟩ = some (.slice tA tn tc) := (HY.out.below HB.out).cell 7; have y8 : v1.cell? ⟨w.heap.size, 8, none⟩ = some (.slice mA mn mc) := (HY.out.below HB.out).cell 8; have y9 : v1.cell? ⟨w.heap.size, 9, none⟩ = some (.int .u16 s7) := (HY.out.below HB.out).cell 9)
      go_returns
      rw [← HRR.out]
      exact ⟨_, _, _, rfl, by have := HO.out.less (S' := Lt w.heap.size) (fun q hq => Nat.lt_of_lt_of_le hq hz3); simpa [List.append_assoc, bodyD, bodyB] using this, HK.out.trans (HB.out.mono hz3)⟩
    · -- kind 6
      have y0 : W.cell? ⟨w.heap.size, 0, none⟩ = some (.int .i64 s0) := (HY.out.below HB.out).cell 0; have y2 : W.cell? ⟨w.heap.size, 2, none⟩ = some (.int .i64 s2) := (HY.out.below HB.out).cell 2; have y3 : W.cell? ⟨w.heap.size, 3, none⟩ = some (.int .u8 s3) := (HY.out.below HB.out).cell 3; have y4 : W.cell? ⟨w.heap.size, 4, none⟩ = some (.int .u16 s4) := (HY.out.below HB.out).cell 4; have y5 : W.cell? ⟨w.heap.size, 5, none⟩ = some (.int .i64 s5) := (HY.out.below HB.out).cell 5; have y6 : W.cell? ⟨w.heap.size, 6, none⟩ = some (.int .i64 s6) := (HY.out.below HB.out).cell 6; have y7 : W.cell? ⟨w.heap.size, 7, none⟩ = some (.slice tA tn tc) := (HY.out.below HB.out).cell 7; have y8 : W.cell? ⟨w.heap.size, 8, none⟩ = some (.slice mA mn mc) := (HY.out.below HB.out).cell 8; have y9 : W.cell? ⟨w.heap.size, 9, none⟩ = some (.int .u16 s7) := (HY.out.below HB.out).cell 9
      go_wp2_with fail
      refine (refword_any _ (jmpW s0 s6) W (by first | rfl | exact jmp_w64 _ _ | exact jmp_i64 _ _ | omega | (rw [HLT.out]; omega) | (simp only [w64_mod]; omega))).mono ?_
      rintro e u1 ⟨B1, rfl, hrd, b2⟩
      have HRD := Lib.hid hrd
      have HO := Lib.hid (HO.out.below b2)
      have HB := Lib.hid (HB.out.trans (b2.mono hzW))
      have hzW := HB.out.size
      clear hrd b2 y0 y2 y3 y4 y5 y6 y7 y8 y9
      go_wp2_with (at_builtin; refine wpList_appS rfl _ _ rfl (Lt w3.heap.size) _ 1 _ _ rfl HO.out _ _ 2 2 _ rfl HRD.out 3 rfl _ rfl (by omega) (fun q hq => Nat.lt_of_lt_of_le hq hzW) ?_; intro A1 c1 v1 o5 k5; have HB := Lib.hid (HB.out.trans (k5.below fun q hq => hq)); have HO := Lib.hid o5; clear o5 k5 HRD; have hzW := HB.out.size; have y0 : v1.cell? ⟨w.heap.size, 0, none⟩ = some (.int .i64 s0) := (HY.out.below HB.out).cell 0; have y2 : v1.cell? ⟨w.heap.size, 2, none⟩ = some (.int .i64 s2) := (HY.out.below HB.out).cell 2; have y3 : v1.cell? ⟨w.heap.size, 3, none⟩ = some (.int .u8 s3) := (HY.out.below HB.out).cell 3; have y4 : v1.cell? ⟨w.heap.size, 4, none⟩ = some (.int .u16 s4) := (HY.out.below HB.out).cell 4; have y5 : v1.cell? ⟨w.heap.size, 5, none⟩ = some (.int .i64 s5) := (HY.out.below HB.out).cell 5; have y6 : v1.cell? ⟨w.heap.size, 6, none⟩ = some (.int .i64 s6) := (HY.out.below HB.out).cell 6; have y7 : v1.cell? ⟨w.heap.size, 7, none⟩ = some (.slice tA tn tc) := (HY.out.below HB.out).cell 7; have y8 : v1.cell? ⟨w.heap.size, 8, none⟩ = some (.slice mA mn mc) := (HY.out.below HB.out).cell 8; have y9 : v1.cell? ⟨w.heap.size, 9, none⟩ = some (.int .u16 s7) := (HY.out.below HB.out).cell 9)
      go_wp2_with fail
      refine (refword_any _ s7 v1 (by first | rfl | exact jmp_w64 _ _ | exact jmp_i64 _ _ | omega | (rw [HLT.out]; omega) | (simp only [w64_mod]; omega))).mono ?_
      rintro e u2 ⟨B2, rfl, hrd, b2⟩
      have HRD := Lib.hid hrd
      have HO := Lib.hid (HO.out.below b2)
      have HB := Lib.hid (HB.out.trans (b2.mono hzW))
      have hzW := HB.out.size
      clear hrd b2 y0 y2 y3 y4 y5 y6 y7 y8 y9
      go_upto_region 20 with (at_builtin; refine wpList_appS rfl _ _ rfl (Lt w3.heap.size) _ 3 _ _ rfl HO.out _ _ 2 2 _ rfl HRD.out 5 rfl _ rfl (by omega) (fun q hq => Nat.lt_of_lt_of_le hq hzW) ?_; intro A2 c2 v2 o5 k5; have HB := Lib.hid (HB.out.trans (k5.below fun q hq => hq)); have HO := Lib.hid o5; clear o5 k5 HRD; have hzW := HB.out.size; have y0 : v2.cell? ⟨w.heap.size, 0, none⟩ = some (.int .i64 s0) := (HY.out.below HB.out).cell 0; have y2 : v2.cell? ⟨w.heap.size, 2, none⟩ = some (.int .i64 s2) := (HY.out.below HB.out).cell 2; have y3 : v2.cell? ⟨w.heap.size, 3, none⟩ = some (.int .u8 s3) := (HY.out.below HB.out).cell 3; have y4 : v2.cell? ⟨w.heap.size, 4, none⟩ = some (.int .u16 s4) := (HY.out.below HB.out).cell 4; have y5 : v2.cell? ⟨w.heap.size, 5, none⟩ = some (.int .i64 s5) := (HY.out.below HB.out).cell 5; have y6 : v2.cell? ⟨w.heap.size, 6, none⟩ = some (.int .i64 s6) := (HY.out.below HB.out).cell 6; have y7 : v2.cell? ⟨w.heap.size, 7, none⟩ = some (.slice tA tn tc) := (HY.out.below HB.out).cell 7; have y8 : v2.cell? ⟨w.heap.size, 8, none⟩ = some (.slice mA mn mc) := (HY.out.below HB.out).cell 8; have y9 : v2.cell? ⟨w.heap.size, 9, none⟩ = some (.int .u16 s7) := (HY.out.below HB.out).cell 9)
      have hrl := HLT.out
      have hrgw := worth_rg s7 ok7 ok8
      have hw1 : IntKind.i64.wrap (worth s7 + (tn : Int)) = worth s7 + tn := IntWalk.i64_in _ (by omega)
      have hw2 : IntKind.i64.wrap (worth s7 + (tn : Int) - 1) = worth s7 + tn - 1 := IntWalk.i64_in _ (by omega)
      have hwc : (worth s7 + (tn : Int) - 1) % 65536 = ((s7 + (tab.length : Int) - 1) % 65536) % 65536 := by rw [hrl]; unfold worth; split <;> omega
      have HWC := Lib.hid hwc
      have HW1 := Lib.hid hw1
      have HW2 := Lib.hid hw2
      have HW3 : Hid (wrap64 (worth s7 + (tn : Int)) = worth s7 + tn) := Lib.hid (by unfold wrap64; omega)
      have HWO := Lib.hid (fun w => worth_any s7 w ok7 ok8)
      clear hrl hrgw hw1 hw2 hwc
      go_cut [5] from 83 to 93 (fun v wx => ∃ (A4 : Option Addr) (c4 : Nat), v = .slice A4 7 c4 ∧ OS wx (Lt w3.heap.size) A4 7 c4 ([s1] ++ wd2 (jmpW s0 s6) ++ wd2 s7 ++ wd2 ((s7 + (tab.length : Int) - 1) % 65536)) ∧ Below w3.heap.size w3 wx)
      case first =>
        go_region_law (first
          | (refine step_appV byFit rfl (.tmp 83) (.tmp 92) rfl (Lt w3.heap.size) _ 5 _ _ rfl O5.out _ A6 2 2 _ rfl HRD.out.rv 7 rfl _ rfl (by omega) (fun q hq => Nat.lt_of_lt_of_le hq hzX) ?_; intro A4 c4 w6 o6 k6)
          | (go_simp; go_at_call 29; refine (refword_any _ ((s7 + (tab.length : Int) - 1) % 65536) _ (by first | exact HWC.out | (rw [HW2.out]; exact HWC.out) | (rw [HW1.out, HW2.out]; exact HWC.out) | (simp only [w64_mod, HW3.out]; exact HWC.out))).mono ?_; rintro e w5 ⟨A6, rfl, hr6, b6⟩; have HRD := Lib.hid hr6; have O5 := Lib.hid ((HO.out.drewN 1).below b6); have BX := Lib.hid ((HB.out.drew.trans (b6.mono hzW))); have hzX := BX.out.size; clear hr6 b6)
          | (go_simp; go_at_call 30; refine (HWO.out _).mono ?_; rintro e w5 ⟨rfl, hw⟩; obtain rfl := hw.symm))
        all_goals
          go_wp2_with fail
          go_meet
          exact ⟨A4, c4, rfl, o6, BX.out.trans (k6.below fun q hq => hq)⟩
      case rest =>
        obtain ⟨A4, c4, rfl, o4, b4⟩ := hcut
        have HO := Lib.hid o4
        have HB := Lib.hid b4
        have hzW := HB.out.size
        clear o4 b4 y0 y2 y3 y4 y5 y6 y7 y8 y9 HWC HW1 HW2 HWO
        have hR0 : ([s1] ++ wd2 (jmpW s0 s6) ++ wd2 s7 ++ wd2 ((s7 + (tab.length : Int) - 1) % 65536)) ++ rowsJ s0 tab 0 = ([s1] ++ wd2 (jmpW s0 s6) ++ wd2 s7 ++ wd2 ((s7 + (tab.length : Int) - 1) % 65536)) := List.append_nil _
        have HRS : Hid (∀ j, rowsJ s0 tab (j + 1) = rowsJ s0 tab j ++ wd2 (jmpW s0 (tab.getD j 0))) := Lib.hid (fun _ => rfl)
        have HEND : Hid (([s1] ++ wd2 (jmpW s0 s6) ++ wd2 s7 ++ wd2 ((s7 + (tab.length : Int) - 1) % 65536)) ++ rowsJ s0 tab tn = RES) := Lib.hid (by rw [← HRR.out, ← HLT.out]; simp [bodyD])
        have HW0 : Hid (OS wc (Lt w3.heap.size) A4 7 c4 (([s1] ++ wd2 (jmpW s0 s6) ++ wd2 s7 ++ wd2 ((s7 + (tab.length : Int) - 1) % 65536)) ++ rowsJ s0 tab 0)) := Lib.hid (by rw [hR0]; simpa [List.append_assoc] using HO.out)
        generalize ([s1] ++ wd2 (jmpW s0 s6) ++ wd2 s7 ++ wd2 ((s7 + (tab.length : Int) - 1) % 65536)) = PRE at HW0 HEND
        generalize hro : rowsJ s0 tab = ROWS at HW0 HEND HRS
        clear hR0 hro HO HRR
        go_wp2_with fail
        go_loopw [5, 6] (fun v i wr => ∃ (j : Nat) (A' : Option Addr) (c' : Nat), j ≤ tn ∧ i = .int .i64 j ∧ v = .slice A' (7 + 2 * j : Nat) c' ∧ OS wr (Lt w3.heap.size) A' (7 + 2 * j) c' (PRE ++ ROWS j) ∧ Below w3.heap.size w3 wr) (fun _ i _ => tn - (intOf i).toNat)
        case atStart => exact ⟨0, _, _, Nat.zero_le _, rfl, rfl, HW0.out, HB.out⟩
        case round =>
          clear HW0 HB
          obtain ⟨j, A', c', hj, rfl, rfl, ho, hb⟩ := hrel
          have HO := Lib.hid ho
          have HB := Lib.hid hb
          clear ho hb
          have hzW := HB.out.size
          have i0 : (0 : Int) ≤ (j : Int) := by omega
          have y0 : wr.cell? ⟨w.heap.size, 0, none⟩ = some (.int .i64 s0) := (HY.out.below HB.out).cell 0; have y2 : wr.cell? ⟨w.heap.size, 2, none⟩ = some (.int .i64 s2) := (HY.out.below HB.out).cell 2; have y3 : wr.cell? ⟨w.heap.size, 3, none⟩ = some (.int .u8 s3) := (HY.out.below HB.out).cell 3; have y4 : wr.cell? ⟨w.heap.size, 4, none⟩ = some (.int .u16 s4) := (HY.out.below HB.out).cell 4; have y5 : wr.cell? ⟨w.heap.size, 5, none⟩ = some (.int .i64 s5) := (HY.out.below HB.out).cell 5; have y6 : wr.cell? ⟨w.heap.size, 6, none⟩ = some (.int .i64 s6) := (HY.out.below HB.out).cell 6; have y7 : wr.cell? ⟨w.heap.size, 7, none⟩ = some (.slice tA tn tc) := (HY.out.below HB.out).cell 7; have y8 : wr.cell? ⟨w.heap.size, 8, none⟩ = some (.slice mA mn mc) := (HY.out.below HB.out).cell 8; have y9 : wr.cell? ⟨w.heap.size, 9, none⟩ = some (.int .u16 s7) := (HY.out.below HB.out).cell 9
          by_cases hlt : j < tn
          · obtain ⟨bt, ot, hAt, hbt, ct⟩ := (HTA.out.below (HK.out.trans (HB.out.mono hz3)) hB).in1 j hlt
            subst hAt
            go_upto_region 24 with (fail)
            go_region_law (first
              | (refine step_appV byFit rfl (.tmp 101) (.tmp 110) rfl (Lt w3.heap.size) _ _ _ _ rfl O5.out _ A6 2 2 _ rfl HRD.out.rv (7 + 2 * (j + 1)) (by omega) (PRE ++ ROWS (j + 1)) (by rw [HRS.out]; simp only [List.append_assoc]) (by omega) (fun q hq => Nat.lt_of_lt_of_le hq hzX) ?_; intro A7 c7 w6 o6 k6)
              | (go_simp; go_at_call 29; refine (refword_any _ (jmpW s0 (tab.getD j 0)) _ (by first | rfl | exact jmp_w64 _ _ | exact jmp_i64 _ _ | omega | (rw [HLT.out]; omega) | (simp only [w64_mod]; omega))).mono ?_; rintro e w5 ⟨A6, rfl, hr6, b6⟩; have HRD := Lib.hid hr6; have O5 := Lib.hid ((HO.out.drewN 1).below b6); have BX := Lib.hid ((HB.out.drew.trans (b6.mono hzW))); have hzX := BX.out.size; clear hr6 b6))
            all_goals
              go_wp2_with fail
              go_roundw
              case rel => exact ⟨j + 1, A7, c7, by omega, by go_num, rfl, o6, BX.out.trans (k6.below fun q hq => hq)⟩
              case measure => simp [intOf]; omega
          · obtain rfl : j = tn := by omega
            go_wp2_with fail
            go_returns
            rw [← HEND.out]
            exact ⟨_, _, _, rfl, HO.out.less (fun q hq => Nat.lt_of_lt_of_le hq hz3), HK.out.trans (HB.out.mono hz3)⟩
    · -- kind 7
      have y0 : W.cell? ⟨w.heap.size, 0, none⟩ = some (.int .i64 s0) := (HY.out.below HB.out).cell 0; have y2 : W.cell? ⟨w.heap.size, 2, none⟩ = some (.int .i64 s2) := (HY.out.below HB.out).cell 2; have y3 : W.cell? ⟨w.heap.size, 3, none⟩ = some (.int .u8 s3) := (HY.out.below HB.out).cell 3; have y4 : W.cell? ⟨w.heap.size, 4, none⟩ = some (.int .u16 s4) := (HY.out.below HB.out).cell 4; have y5 : W.cell? ⟨w.heap.size, 5, none⟩ = some (.int .i64 s5) := (HY.out.below HB.out).cell 5; have y6 : W.cell? ⟨w.heap.size, 6, none⟩ = some (.int .i64 s6) := (HY.out.below HB.out).cell 6; have y7 : W.cell? ⟨w.heap.size, 7, none⟩ = some (.slice tA tn tc) := (HY.out.below HB.out).cell 7; have y8 : W.cell? ⟨w.heap.size, 8, none⟩ = some (.slice mA mn mc) := (HY.out.below HB.out).cell 8; have y9 : W.cell? ⟨w.heap.size, 9, none⟩ = some (.int .u16 s7) := (HY.out.below HB.out).cell 9
      go_wp2_with fail
      refine (refword_any _ (jmpW s0 s6) W (by first | rfl | exact jmp_w64 _ _ | exact jmp_i64 _ _ | omega | (rw [HLT.out]; omega) | (simp only [w64_mod]; omega))).mono ?_
      rintro e u1 ⟨B1, rfl, hrd, b2⟩
      have HRD := Lib.hid hrd
      have HO := Lib.hid (HO.out.below b2)
      have HB := Lib.hid (HB.out.trans (b2.mono hzW))
      have hzW := HB.out.size
      clear hrd b2 y0 y2 y3 y4 y5 y6 y7 y8 y9
      go_wp2_with (at_builtin; refine wpList_appS rfl _ _ rfl (Lt w3.heap.size) _ 1 _ _ rfl HO.out _ _ 2 2 _ rfl HRD.out 3 rfl _ rfl (by omega) (fun q hq => Nat.lt_of_lt_of_le hq hzW) ?_; intro A1 c1 v1 o5 k5; have HB := Lib.hid (HB.out.trans (k5.below fun q hq => hq)); have HO := Lib.hid o5; clear o5 k5 HRD; have hzW := HB.out.size; have y0 : v1.cell? ⟨w.heap.size, 0, none⟩ = some (.int .i64 s0) := (HY.out.below HB.out).cell 0; have y2 : v1.cell? ⟨w.heap.size, 2, none⟩ = some (.int .i64 s2) := (HY.out.below HB.out).cell 2; have y3 : v1.cell? ⟨w.heap.size, 3, none⟩ = some (.int .u8 s3) := (HY.out.below HB.out).cell 3; have y4 : v1.cell? ⟨w.heap.size, 4, none⟩ = some (.int .u16 s4) := (HY.out.below HB.out).cell 4; have y5 : v1.cell? ⟨w.heap.size, 5, none⟩ = some (.int .i64 s5) := (HY.out.below HB.out).cell 5; have y6 : v1.cell? ⟨w.heap.size, 6, none⟩ = some (.int .i64 s6) := (HY.out.below HB.out).cell 6; have y7 : v1.cell? ⟨w.heap.size, 7, none⟩ = some (.slice tA tn tc) := (HY.out.below HB.out).cell 7; have y8 : v1.cell? ⟨w.heap.size, 8, none⟩ = some (.slice mA mn mc) := (HY.out.below HB.out).cell 8; have y9 : v1.cell? ⟨w.heap.size, 9, none⟩ = some (.int .u16 s7) := (HY.out.below HB.out).cell 9)
      go_wp2_with fail
      refine (refword_any _ ((tab.length : Int) % 65536) v1 (by first | rfl | exact jmp_w64 _ _ | exact jmp_i64 _ _ | omega | (rw [HLT.out]; omega) | (simp only [w64_mod]; omega))).mono ?_
      rintro e u2 ⟨B2, rfl, hrd, b2⟩
      have HRD := Lib.hid hrd
      have HO := Lib.hid (HO.out.below b2)
      have HB := Lib.hid (HB.out.trans (b2.mono hzW))
      have hzW := HB.out.size
      clear hrd b2 y0 y2 y3 y4 y5 y6 y7 y8 y9
      go_upto_region 28 with (at_builtin; refine wpList_appS rfl _ _ rfl (Lt w3.heap.size) _ 3 _ _ rfl HO.out _ _ 2 2 _ rfl HRD.out 5 rfl _ rfl (by omega) (fun q hq => Nat.lt_of_lt_of_le hq hzW) ?_; intro A2 c2 v2 o5 k5; have HB := Lib.hid (HB.out.trans (k5.below fun q hq => hq)); have HO := Lib.hid o5; clear o5 k5 HRD; have hzW := HB.out.size; have y0 : v2.cell? ⟨w.heap.size, 0, none⟩ = some (.int .i64 s0) := (HY.out.below HB.out).cell 0; have y2 : v2.cell? ⟨w.heap.size, 2, none⟩ = some (.int .i64 s2) := (HY.out.below HB.out).cell 2; have y3 : v2.cell? ⟨w.heap.size, 3, none⟩ = some (.int .u8 s3) := (HY.out.below HB.out).cell 3; have y4 : v2.cell? ⟨w.heap.size, 4, none⟩ = some (.int .u16 s4) := (HY.out.below HB.out).cell 4; have y5 : v2.cell? ⟨w.heap.size, 5, none⟩ = some (.int .i64 s5) := (HY.out.below HB.out).cell 5; have y6 : v2.cell? ⟨w.heap.size, 6, none⟩ = some (.int .i64 s6) := (HY.out.below HB.out).cell 6; have y7 : v2.cell? ⟨w.heap.size, 7, none⟩ = some (.slice tA tn tc) := (HY.out.below HB.out).cell 7; have y8 : v2.cell? ⟨w.heap.size, 8, none⟩ = some (.slice mA mn mc) := (HY.out.below HB.out).cell 8; have y9 : v2.cell? ⟨w.heap.size, 9, none⟩ = some (.int .u16 s7) := (HY.out.below HB.out).cell 9)
      have hR0 : ([s1] ++ wd2 (jmpW s0 s6) ++ wd2 ((tab.length : Int) % 65536)) ++ rowsM s0 tab mat 0 = ([s1] ++ wd2 (jmpW s0 s6) ++ wd2 ((tab.length : Int) % 65536)) := List.append_nil _
      have HRS : Hid (∀ j, rowsM s0 tab mat (j + 1) = rowsM s0 tab mat j ++ (wd2 (mat.getD j 0) ++ wd2 (jmpW s0 (tab.getD j 0)))) := Lib.hid (fun _ => rfl)
      have HEND : Hid (([s1] ++ wd2 (jmpW s0 s6) ++ wd2 ((tab.length : Int) % 65536)) ++ rowsM s0 tab mat tn = RES) := Lib.hid (by rw [← HRR.out, ← HLT.out]; simp [bodyD])
      have HW0 : Hid (OS v2 (Lt w3.heap.size) A2 5 c2 (([s1] ++ wd2 (jmpW s0 s6) ++ wd2 ((tab.length : Int) % 65536)) ++ rowsM s0 tab mat 0)) := Lib.hid (by rw [hR0]; simpa [List.append_assoc] using HO.out)
      generalize ([s1] ++ wd2 (jmpW s0 s6) ++ wd2 ((tab.length : Int) % 65536)) = PRE at HW0 HEND
      generalize hro : rowsM s0 tab mat = ROWS at HW0 HEND HRS
      clear hR0 hro HO HRR y0 y2 y3 y4 y5 y6 y7 y8 y9
      go_wp2_with fail
      go_loopw [5, 7] (fun v i wr => ∃ (j : Nat) (A' : Option Addr) (c' : Nat), j ≤ tn ∧ i = .int .i64 j ∧ v = .slice A' (5 + 4 * j : Nat) c' ∧ OS wr (Lt w3.heap.size) A' (5 + 4 * j) c' (PRE ++ ROWS j) ∧ Below w3.heap.size w3 wr) (fun _ i _ => tn - (intOf i).toNat)
      case atStart => exact ⟨0, _, _, Nat.zero_le _, rfl, rfl, HW0.out, HB.out⟩
      case round =>
        clear HW0 HB
        obtain ⟨j, A', c', hj, rfl, rfl, ho, hb⟩ := hrel
        have HO := Lib.hid ho
        have HB := Lib.hid hb
        clear ho hb
        have hzW := HB.out.size
        have i0 : (0 : Int) ≤ (j : Int) := by omega
        have y0 : wr.cell? ⟨w.heap.size, 0, none⟩ = some (.int .i64 s0) := (HY.out.below HB.out).cell 0; have y2 : wr.cell? ⟨w.heap.size, 2, none⟩ = some (.int .i64 s2) := (HY.out.below HB.out).cell 2; have y3 : wr.cell? ⟨w.heap.size, 3, none⟩ = some (.int .u8 s3) := (HY.out.below HB.out).cell 3; have y4 : wr.cell? ⟨w.heap.size, 4, none⟩ = some (.int .u16 s4) := (HY.out.below HB.out).cell 4; have y5 : wr.cell? ⟨w.heap.size, 5, none⟩ = some (.int .i64 s5) := (HY.out.below HB.out).cell 5; have y6 : wr.cell? ⟨w.heap.size, 6, none⟩ = some (.int .i64 s6) := (HY.out.below HB.out).cell 6; have y7 : wr.cell? ⟨w.heap.size, 7, none⟩ = some (.slice tA tn tc) := (HY.out.below HB.out).cell 7; have y8 : wr.cell? ⟨w.heap.size, 8, none⟩ = some (.slice mA mn mc) := (HY.out.below HB.out).cell 8; have y9 : wr.cell? ⟨w.heap.size, 9, none⟩ = some (.int .u16 s7) := (HY.out.below HB.out).cell 9
        by_cases hlt : j < tn
        · obtain ⟨bt, ot, hAt, hbt, ct⟩ := (HTA.out.below (HK.out.trans (HB.out.mono hz3)) hB).in1 j hlt
          subst hAt
          by_cases hmj : j < mn
          · obtain ⟨bm, om, hAm, hbm, cm⟩ := (HMA.out.below (HK.out.trans (HB.out.mono hz3)) hB).wo1 j hmj
            subst hAm
            go_wp2_with fail
            refine (refword_any _ (mat.getD j 0) wr (by first | rfl | (rw [w64_mod]; rfl) | (rw [w64_mod, List.getD_eq_getElem?_getD]) | (rw [HG.out]))).mono ?_
            rintro e u1 ⟨B1, rfl, hrd, b2⟩
            have HRD := Lib.hid hrd
            have HO := Lib.hid (HO.out.below b2)
            have HB := Lib.hid (HB.out.trans (b2.mono hzW))
            have hzW := HB.out.size
            clear hrd b2 y0 y2 y3 y4 y5 y6 y7 y8 y9 cm
            go_upto_region 35 with (at_builtin; (refine wpList_appS rfl _ _ rfl (Lt w3.heap.size) _ _ _ _ rfl HO.out _ _ 2 2 _ rfl HRD.out (5 + 4 * j + 2) rfl _ rfl (by omega) (fun q hq => Nat.lt_of_lt_of_le hq hzW) ?_; intro A1 c1 v1 o5 k5; have HB := Lib.hid (HB.out.trans (k5.below fun q hq => hq)); have HO := Lib.hid o5; clear o5 k5 HRD; have hzW := HB.out.size; have y0 : v1.cell? ⟨w.heap.size, 0, none⟩ = some (.int .i64 s0) := (HY.out.below HB.out).cell 0; have y2 : v1.cell? ⟨w.heap.size, 2, none⟩ = some (.int .i64 s2) := (HY.out.below HB.out).cell 2; have y3 : v1.cell? ⟨w.heap.size, 3, none⟩ = some (.int .u8 s3) := (HY.out.below HB.out).cell 3; have y4 : v1.cell? ⟨w.heap.size, 4, none⟩ = some (.int .u16 s4) := (HY.out.below HB.out).cell 4; have y5 : v1.cell? ⟨w.heap.size, 5, none⟩ = some (.int .i64 s5) := (HY.out.below HB.out).cell 5; have y6 : v1.cell? ⟨w.heap.size, 6, none⟩ = some (.int .i64 s6) := (HY.out.below HB.out).cell 6; have y7 : v1.cell? ⟨w.heap.size, 7, none⟩ = some (.slice (some ⟨bt, ot, none⟩) tn tc) := (HY.out.below HB.out).cell 7; have y8 : v1.cell? ⟨w.heap.size, 8, none⟩ = some (.slice (some ⟨bm, om, none⟩) mn mc) := (HY.out.below HB.out).cell 8; have y9 : v1.cell? ⟨w.heap.size, 9, none⟩ = some (.int .u16 s7) := (HY.out.below HB.out).cell 9; have ct := ((HTA.out.below (HK.out.trans (HB.out.mono hz3)) hB).in1 j hlt); obtain ⟨bt2, ot2, hAt2, hbt2, ct2⟩ := ct; obtain ⟨rfl, rfl⟩ : bt = bt2 ∧ ot = ot2 := by simpa using hAt2))
            go_region_law (first
              | (refine step_appV byFit rfl (.tmp 150) (.tmp 159) rfl (Lt w3.heap.size) _ _ _ _ rfl O5.out _ A6 2 2 _ rfl HRD.out.rv (5 + 4 * (j + 1)) (by omega) (PRE ++ ROWS (j + 1)) (by rw [HRS.out]; simp only [List.append_assoc]) (by omega) (fun q hq => Nat.lt_of_lt_of_le hq hzX) ?_; intro A7 c7 w6 o6 k6)
              | (go_simp; go_at_call 29; refine (refword_any _ (jmpW s0 (tab.getD j 0)) _ (by first | rfl | exact jmp_w64 _ _ | exact jmp_i64 _ _ | omega | (rw [HLT.out]; omega) | (simp only [w64_mod]; omega))).mono ?_; rintro e w5 ⟨A6, rfl, hr6, b6⟩; have HRD := Lib.hid hr6; have O5 := Lib.hid ((HO.out.drewN 1).below b6); have BX := Lib.hid ((HB.out.drew.trans (b6.mono hzW))); have hzX := BX.out.size; clear hr6 b6))
            all_goals
              go_wp2_with fail
              go_roundw
              case rel => exact ⟨j + 1, A7, c7, by omega, by go_num, rfl, o6, BX.out.trans (k6.below fun q hq => hq)⟩
              case measure => simp [intOf]; omega
          · have hg : mat.getD j 0 = 0 := by rw [List.getD_eq_getElem?_getD, List.getElem?_eq_none (by rw [HLM.out]; omega)]; rfl
            have HG := Lib.hid hg
            clear hg
            go_wp2_with fail
            refine (refword_any _ (mat.getD j 0) wr (by first | rfl | (rw [w64_mod]; rfl) | (rw [w64_mod, List.getD_eq_getElem?_getD]) | (rw [HG.out]))).mono ?_
            rintro e u1 ⟨B1, rfl, hrd, b2⟩
            have HRD := Lib.hid hrd
            have HO := Lib.hid (HO.out.below b2)
            have HB := Lib.hid (HB.out.trans (b2.mono hzW))
            have hzW := HB.out.size
            clear hrd b2 y0 y2 y3 y4 y5 y6 y7 y8 y9 
            go_upto_region 35 with (at_builtin; (refine wpList_appS rfl _ _ rfl (Lt w3.heap.size) _ _ _ _ rfl HO.out _ _ 2 2 _ rfl HRD.out (5 + 4 * j + 2) rfl _ rfl (by omega) (fun q hq => Nat.lt_of_lt_of_le hq hzW) ?_; intro A1 c1 v1 o5 k5; have HB := Lib.hid (HB.out.trans (k5.below fun q hq => hq)); have HO := Lib.hid o5; clear o5 k5 HRD; have hzW := HB.out.size; have y0 : v1.cell? ⟨w.heap.size, 0, none⟩ = some (.int .i64 s0) := (HY.out.below HB.out).cell 0; have y2 : v1.cell? ⟨w.heap.size, 2, none⟩ = some (.int .i64 s2) := (HY.out.below HB.out).cell 2; have y3 : v1.cell? ⟨w.heap.size, 3, none⟩ = some (.int .u8 s3) := (HY.out.below HB.out).cell 3; have y4 : v1.cell? ⟨w.heap.size, 4, none⟩ = some (.int .u16 s4) := (HY.out.below HB.out).cell 4; have y5 : v1.cell? ⟨w.heap.size, 5, none⟩ = some (.int .i64 s5) := (HY.out.below HB.out).cell 5; have y6 : v1.cell? ⟨w.heap.size, 6, none⟩ = some (.int .i64 s6) := (HY.out.below HB.out).cell 6; have y7 : v1.cell? ⟨w.heap.size, 7, none⟩ = some (.slice (some ⟨bt, ot, none⟩) tn tc) := (HY.out.below HB.out).cell 7; have y8 : v1.cell? ⟨w.heap.size, 8, none⟩ = some (.slice mA mn mc) := (HY.out.below HB.out).cell 8; have y9 : v1.cell? ⟨w.heap.size, 9, none⟩ = some (.int .u16 s7) := (HY.out.below HB.out).cell 9; have ct := ((HTA.out.below (HK.out.trans (HB.out.mono hz3)) hB).in1 j hlt); obtain ⟨bt2, ot2, hAt2, hbt2, ct2⟩ := ct; obtain ⟨rfl, rfl⟩ : bt = bt2 ∧ ot = ot2 := by simpa using hAt2))
            go_region_law (first
              | (refine step_appV byFit rfl (.tmp 150) (.tmp 159) rfl (Lt w3.heap.size) _ _ _ _ rfl O5.out _ A6 2 2 _ rfl HRD.out.rv (5 + 4 * (j + 1)) (by omega) (PRE ++ ROWS (j + 1)) (by rw [HRS.out]; simp only [List.append_assoc]) (by omega) (fun q hq => Nat.lt_of_lt_of_le hq hzX) ?_; intro A7 c7 w6 o6 k6)
              | (go_simp; go_at_call 29; refine (refword_any _ (jmpW s0 (tab.getD j 0)) _ (by first | rfl | exact jmp_w64 _ _ | exact jmp_i64 _ _ | omega | (rw [HLT.out]; omega) | (simp only [w64_mod]; omega))).mono ?_; rintro e w5 ⟨A6, rfl, hr6, b6⟩; have HRD := Lib.hid hr6; have O5 := Lib.hid ((HO.out.drewN 1).below b6); have BX := Lib.hid ((HB.out.drew.trans (b6.mono hzW))); have hzX := BX.out.size; clear hr6 b6))
            all_goals
              go_wp2_with fail
              go_roundw
              case rel => exact ⟨j + 1, A7, c7, by omega, by go_num, rfl, o6, BX.out.trans (k6.below fun q hq => hq)⟩
              case measure => simp [intOf]; omega
        · obtain rfl : j = tn := by omega
          go_wp2_with fail
          go_returns
          rw [← HEND.out]
          exact ⟨_, _, _, rfl, HO.out.less (fun q hq => Nat.lt_of_lt_of_le hq hz3), HK.out.trans (HB.out.mono hz3)⟩
    · -- kind 8
      have y0 : W.cell? ⟨w.heap.size, 0, none⟩ = some (.int .i64 s0) := (HY.out.below HB.out).cell 0; have y2 : W.cell? ⟨w.heap.size, 2, none⟩ = some (.int .i64 s2) := (HY.out.below HB.out).cell 2; have y3 : W.cell? ⟨w.heap.size, 3, none⟩ = some (.int .u8 s3) := (HY.out.below HB.out).cell 3; have y4 : W.cell? ⟨w.heap.size, 4, none⟩ = some (.int .u16 s4) := (HY.out.below HB.out).cell 4; have y5 : W.cell? ⟨w.heap.size, 5, none⟩ = some (.int .i64 s5) := (HY.out.below HB.out).cell 5; have y6 : W.cell? ⟨w.heap.size, 6, none⟩ = some (.int .i64 s6) := (HY.out.below HB.out).cell 6; have y7 : W.cell? ⟨w.heap.size, 7, none⟩ = some (.slice tA tn tc) := (HY.out.below HB.out).cell 7; have y8 : W.cell? ⟨w.heap.size, 8, none⟩ = some (.slice mA mn mc) := (HY.out.below HB.out).cell 8; have y9 : W.cell? ⟨w.heap.size, 9, none⟩ = some (.int .u16 s7) := (HY.out.below HB.out).cell 9
      go_wp2_with fail
      refine (refword_any _ (s5 % 65536) W (by first | rfl | exact jmp_w64 _ _ | exact jmp_i64 _ _ | omega | (rw [HLT.out]; omega) | (simp only [w64_mod]; omega))).mono ?_
      rintro e u1 ⟨B1, rfl, hrd, b2⟩
      have HRD := Lib.hid hrd
      have HO := Lib.hid (HO.out.below b2)
      have HB := Lib.hid (HB.out.trans (b2.mono hzW))
      have hzW := HB.out.size
      clear hrd b2 y0 y2 y3 y4 y5 y6 y7 y8 y9
      go_wp2_with (at_builtin; refine wpList_appS rfl _ _ rfl (Lt w3.heap.size) _ 1 _ _ rfl HO.out _ _ 2 2 _ rfl HRD.out 3 rfl _ rfl (by omega) (fun q hq => Nat.lt_of_lt_of_le hq hzW) ?_; intro A1 c1 v1 o5 k5; have HB := Lib.hid (HB.out.trans (k5.below fun q hq => hq)); have HO := Lib.hid o5; clear o5 k5 HRD; have hzW := HB.out.size; have y0 : v1.cell? ⟨w.heap.size, 0, none⟩ = some (.int .i64 s0) := (HY.out.below HB.out).cell 0; have y2 : v1.cell? ⟨w.heap.size, 2, none⟩ = some (.int .i64 s2) := (HY.out.below HB.out).cell 2; have y3 : v1.cell? ⟨w.heap.size, 3, none⟩ = some (.int .u8 s3) := (HY.out.below HB.out).cell 3; have y4 : v1.cell? ⟨w.heap.size, 4, none⟩ = some (.int .u16 s4) := (HY.out.below HB.out).cell 4; have y5 : v1.cell? ⟨w.heap.size, 5, none⟩ = some (.int .i64 s5) := (HY.out.below HB.out).cell 5; have y6 : v1.cell? ⟨w.heap.size, 6, none⟩ = some (.int .i64 s6) := (HY.out.below HB.out).cell 6; have y7 : v1.cell? ⟨w.heap.size, 7, none⟩ = some (.slice tA tn tc) := (HY.out.below HB.out).cell 7; have y8 : v1.cell? ⟨w.heap.size, 8, none⟩ = some (.slice mA mn mc) := (HY.out.below HB.out).cell 8; have y9 : v1.cell? ⟨w.heap.size, 9, none⟩ = some (.int .u16 s7) := (HY.out.below HB.out).cell 9)
      go_returns
      rw [← HRR.out]
      exact ⟨_, _, _, rfl, by have := HO.out.less (S' := Lt w.heap.size) (fun q hq => Nat.lt_of_lt_of_le hq hz3); simpa [List.append_assoc, bodyD, bodyB] using this, HK.out.trans (HB.out.mono hz3)⟩
    · -- kind 9
      have y0 : W.cell? ⟨w.heap.size, 0, none⟩ = some (.int .i64 s0) := (HY.out.below HB.out).cell 0; have y2 : W.cell? ⟨w.heap.size, 2, none⟩ = some (.int .i64 s2) := (HY.out.below HB.out).cell 2; have y3 : W.cell? ⟨w.heap.size, 3, none⟩ = some (.int .u8 s3) := (HY.out.below HB.out).cell 3; have y4 : W.cell? ⟨w.heap.size, 4, none⟩ = some (.int .u16 s4) := (HY.out.below HB.out).cell 4; have y5 : W.cell? ⟨w.heap.size, 5, none⟩ = some (.int .i64 s5) := (HY.out.below HB.out).cell 5; have y6 : W.cell? ⟨w.heap.size, 6, none⟩ = some (.int .i64 s6) := (HY.out.below HB.out).cell 6; have y7 : W.cell? ⟨w.heap.size, 7, none⟩ = some (.slice tA tn tc) := (HY.out.below HB.out).cell 7; have y8 : W.cell? ⟨w.heap.size, 8, none⟩ = some (.slice mA mn mc) := (HY.out.below HB.out).cell 8; have y9 : W.cell? ⟨w.heap.size, 9, none⟩ = some (.int .u16 s7) := (HY.out.below HB.out).cell 9
      have hrd := Lib.hid (rd_litJ W [s2 % 256] 1 rfl (by simp [maxLen]) (by intro y hy; simp at hy; omega))
      go_wp2_with (at_builtin; refine wpList_appS rfl _ _ rfl (Lt w3.heap.size) _ 1 _ _ rfl (HO.out.alloc _) _ _ 1 1 [s2 % 256] rfl hrd.out 2 rfl _ rfl (by omega) (fun q hq => by have h2 : q < w3.heap.size := hq; simp; omega) ?_; intro A1 c1 v1 o5 k5; have HB := Lib.hid ((HB.out.alloc HB.out.size _).trans (k5.below fun q hq => hq)); have HO := Lib.hid o5; clear o5 k5 hrd y0 y2 y3 y4 y5 y6 y7 y8 y9; have hzW := HB.out.size; have y0 : v1.cell? ⟨w.heap.size, 0, none⟩ = some (.int .i64 s0) := (HY.out.below HB.out).cell 0; have y2 : v1.cell? ⟨w.heap.size, 2, none⟩ = some (.int .i64 s2) := (HY.out.below HB.out).cell 2; have y3 : v1.cell? ⟨w.heap.size, 3, none⟩ = some (.int .u8 s3) := (HY.out.below HB.out).cell 3; have y4 : v1.cell? ⟨w.heap.size, 4, none⟩ = some (.int .u16 s4) := (HY.out.below HB.out).cell 4; have y5 : v1.cell? ⟨w.heap.size, 5, none⟩ = some (.int .i64 s5) := (HY.out.below HB.out).cell 5; have y6 : v1.cell? ⟨w.heap.size, 6, none⟩ = some (.int .i64 s6) := (HY.out.below HB.out).cell 6; have y7 : v1.cell? ⟨w.heap.size, 7, none⟩ = some (.slice tA tn tc) := (HY.out.below HB.out).cell 7; have y8 : v1.cell? ⟨w.heap.size, 8, none⟩ = some (.slice mA mn mc) := (HY.out.below HB.out).cell 8; have y9 : v1.cell? ⟨w.heap.size, 9, none⟩ = some (.int .u16 s7) := (HY.out.below HB.out).cell 9)
      go_wp2_with fail
      refine (refword_any _ (s5 % 65536) v1 (by first | rfl | exact jmp_w64 _ _ | exact jmp_i64 _ _ | omega | (rw [HLT.out]; omega) | (simp only [w64_mod]; omega))).mono ?_
      rintro e u2 ⟨B2, rfl, hrd, b2⟩
      have HRD := Lib.hid hrd
      have HO := Lib.hid (HO.out.below b2)
      have HB := Lib.hid (HB.out.trans (b2.mono hzW))
      have hzW := HB.out.size
      clear hrd b2 y0 y2 y3 y4 y5 y6 y7 y8 y9
      go_wp2_with (first
        | (at_builtin; refine wpList_appS rfl _ _ rfl (Lt w3.heap.size) _ 2 _ _ rfl HO.out _ _ 2 2 _ rfl HRD.out 4 rfl _ rfl (by omega) (fun q hq => Nat.lt_of_lt_of_le hq hzW) ?_; intro A2 c2 v2 o5 k5; have HB := Lib.hid (HB.out.trans (k5.below fun q hq => hq)); have HO := Lib.hid o5; clear o5 k5 HRD; have hzW := HB.out.size; have y0 : v2.cell? ⟨w.heap.size, 0, none⟩ = some (.int .i64 s0) := (HY.out.below HB.out).cell 0; have y2 : v2.cell? ⟨w.heap.size, 2, none⟩ = some (.int .i64 s2) := (HY.out.below HB.out).cell 2; have y3 : v2.cell? ⟨w.heap.size, 3, none⟩ = some (.int .u8 s3) := (HY.out.below HB.out).cell 3; have y4 : v2.cell? ⟨w.heap.size, 4, none⟩ = some (.int .u16 s4) := (HY.out.below HB.out).cell 4; have y5 : v2.cell? ⟨w.heap.size, 5, none⟩ = some (.int .i64 s5) := (HY.out.below HB.out).cell 5; have y6 : v2.cell? ⟨w.heap.size, 6, none⟩ = some (.int .i64 s6) := (HY.out.below HB.out).cell 6; have y7 : v2.cell? ⟨w.heap.size, 7, none⟩ = some (.slice tA tn tc) := (HY.out.below HB.out).cell 7; have y8 : v2.cell? ⟨w.heap.size, 8, none⟩ = some (.slice mA mn mc) := (HY.out.below HB.out).cell 8; have y9 : v2.cell? ⟨w.heap.size, 9, none⟩ = some (.int .u16 s7) := (HY.out.below HB.out).cell 9; have hrd := Lib.hid (rd_litJ v2 [s3] 1 rfl (by simp [maxLen]) (by intro y hy; simp at hy; omega)))
        | (at_builtin; refine wpList_appS rfl _ _ rfl (Lt w3.heap.size) _ 4 _ _ rfl (HO.out.alloc _) _ _ 1 1 [s3] rfl hrd.out 5 rfl _ rfl (by omega) (fun q hq => by have h2 : q < w3.heap.size := hq; simp; omega) ?_; intro A3 c3 v3 o5 k5; have HB := Lib.hid ((HB.out.alloc HB.out.size _).trans (k5.below fun q hq => hq)); have HO := Lib.hid o5; clear o5 k5 hrd y0 y2 y3 y4 y5 y6 y7 y8 y9))
      go_returns
      rw [← HRR.out]
      exact ⟨_, _, _, rfl, by have := HO.out.less (S' := Lt w.heap.size) (fun q hq => Nat.lt_of_lt_of_le hq hz3); simpa [List.append_assoc, bodyD, bodyB] using this, HK.out.trans (HB.out.mono hz3)⟩
    · -- kind 10
      have y0 : W.cell? ⟨w.heap.size, 0, none⟩ = some (.int .i64 s0) := (HY.out.below HB.out).cell 0; have y2 : W.cell? ⟨w.heap.size, 2, none⟩ = some (.int .i64 s2) := (HY.out.below HB.out).cell 2; have y3 : W.cell? ⟨w.heap.size, 3, none⟩ = some (.int .u8 s3) := (HY.out.below HB.out).cell 3; have y4 : W.cell? ⟨w.heap.size, 4, none⟩ = some (.int .u16 s4) := (HY.out.below HB.out).cell 4; have y5 : W.cell? ⟨w.heap.size, 5, none⟩ = some (.int .i64 s5) := (HY.out.below HB.out).cell 5; have y6 : W.cell? ⟨w.heap.size, 6, none⟩ = some (.int .i64 s6) := (HY.out.below HB.out).cell 6; have y7 : W.cell? ⟨w.heap.size, 7, none⟩ = some (.slice tA tn tc) := (HY.out.below HB.out).cell 7; have y8 : W.cell? ⟨w.heap.size, 8, none⟩ = some (.slice mA mn mc) := (HY.out.below HB.out).cell 8; have y9 : W.cell? ⟨w.heap.size, 9, none⟩ = some (.int .u16 s7) := (HY.out.below HB.out).cell 9
      have hrd := Lib.hid (rd_litJ W [s2 % 256] 1 rfl (by simp [maxLen]) (by intro y hy; simp at hy; omega))
      go_wp2_with (at_builtin; refine wpList_appS rfl _ _ rfl (Lt w3.heap.size) _ 1 _ _ rfl (HO.out.alloc _) _ _ 1 1 [s2 % 256] rfl hrd.out 2 rfl _ rfl (by omega) (fun q hq => by have h2 : q < w3.heap.size := hq; simp; omega) ?_; intro A1 c1 v1 o5 k5; have HB := Lib.hid ((HB.out.alloc HB.out.size _).trans (k5.below fun q hq => hq)); have HO := Lib.hid o5; clear o5 k5 hrd y0 y2 y3 y4 y5 y6 y7 y8 y9; have hzW := HB.out.size; have y0 : v1.cell? ⟨w.heap.size, 0, none⟩ = some (.int .i64 s0) := (HY.out.below HB.out).cell 0; have y2 : v1.cell? ⟨w.heap.size, 2, none⟩ = some (.int .i64 s2) := (HY.out.below HB.out).cell 2; have y3 : v1.cell? ⟨w.heap.size, 3, none⟩ = some (.int .u8 s3) := (HY.out.below HB.out).cell 3; have y4 : v1.cell? ⟨w.heap.size, 4, none⟩ = some (.int .u16 s4) := (HY.out.below HB.out).cell 4; have y5 : v1.cell? ⟨w.heap.size, 5, none⟩ = some (.int .i64 s5) := (HY.out.below HB.out).cell 5; have y6 : v1.cell? ⟨w.heap.size, 6, none⟩ = some (.int .i64 s6) := (HY.out.below HB.out).cell 6; have y7 : v1.cell? ⟨w.heap.size, 7, none⟩ = some (.slice tA tn tc) := (HY.out.below HB.out).cell 7; have y8 : v1.cell? ⟨w.heap.size, 8, none⟩ = some (.slice mA mn mc) := (HY.out.below HB.out).cell 8; have y9 : v1.cell? ⟨w.heap.size, 9, none⟩ = some (.int .u16 s7) := (HY.out.below HB.out).cell 9)
      go_returns
      rw [← HRR.out]
      exact ⟨_, _, _, rfl, by have := HO.out.less (S' := Lt w.heap.size) (fun q hq => Nat.lt_of_lt_of_le hq hz3); simpa [List.append_assoc, bodyD, bodyB] using this, HK.out.trans (HB.out.mono hz3)⟩
    · -- kind 11
      have y0 : W.cell? ⟨w.heap.size, 0, none⟩ = some (.int .i64 s0) := (HY.out.below HB.out).cell 0; have y2 : W.cell? ⟨w.heap.size, 2, none⟩ = some (.int .i64 s2) := (HY.out.below HB.out).cell 2; have y3 : W.cell? ⟨w.heap.size, 3, none⟩ = some (.int .u8 s3) := (HY.out.below HB.out).cell 3; have y4 : W.cell? ⟨w.heap.size, 4, none⟩ = some (.int .u16 s4) := (HY.out.below HB.out).cell 4; have y5 : W.cell? ⟨w.heap.size, 5, none⟩ = some (.int .i64 s5) := (HY.out.below HB.out).cell 5; have y6 : W.cell? ⟨w.heap.size, 6, none⟩ = some (.int .i64 s6) := (HY.out.below HB.out).cell 6; have y7 : W.cell? ⟨w.heap.size, 7, none⟩ = some (.slice tA tn tc) := (HY.out.below HB.out).cell 7; have y8 : W.cell? ⟨w.heap.size, 8, none⟩ = some (.slice mA mn mc) := (HY.out.below HB.out).cell 8; have y9 : W.cell? ⟨w.heap.size, 9, none⟩ = some (.int .u16 s7) := (HY.out.below HB.out).cell 9
      have hrd := Lib.hid (rd_litJ W [s2 % 256] 1 rfl (by simp [maxLen]) (by intro y hy; simp at hy; omega))
      go_wp2_with (at_builtin; refine wpList_appS rfl _ _ rfl (Lt w3.heap.size) _ 1 _ _ rfl (HO.out.alloc _) _ _ 1 1 [s2 % 256] rfl hrd.out 2 rfl _ rfl (by omega) (fun q hq => by have h2 : q < w3.heap.size := hq; simp; omega) ?_; intro A1 c1 v1 o5 k5; have HB := Lib.hid ((HB.out.alloc HB.out.size _).trans (k5.below fun q hq => hq)); have HO := Lib.hid o5; clear o5 k5 hrd y0 y2 y3 y4 y5 y6 y7 y8 y9; have hzW := HB.out.size; have y0 : v1.cell? ⟨w.heap.size, 0, none⟩ = some (.int .i64 s0) := (HY.out.below HB.out).cell 0; have y2 : v1.cell? ⟨w.heap.size, 2, none⟩ = some (.int .i64 s2) := (HY.out.below HB.out).cell 2; have y3 : v1.cell? ⟨w.heap.size, 3, none⟩ = some (.int .u8 s3) := (HY.out.below HB.out).cell 3; have y4 : v1.cell? ⟨w.heap.size, 4, none⟩ = some (.int .u16 s4) := (HY.out.below HB.out).cell 4; have y5 : v1.cell? ⟨w.heap.size, 5, none⟩ = some (.int .i64 s5) := (HY.out.below HB.out).cell 5; have y6 : v1.cell? ⟨w.heap.size, 6, none⟩ = some (.int .i64 s6) := (HY.out.below HB.out).cell 6; have y7 : v1.cell? ⟨w.heap.size, 7, none⟩ = some (.slice tA tn tc) := (HY.out.below HB.out).cell 7; have y8 : v1.cell? ⟨w.heap.size, 8, none⟩ = some (.slice mA mn mc) := (HY.out.below HB.out).cell 8; have y9 : v1.cell? ⟨w.heap.size, 9, none⟩ = some (.int .u16 s7) := (HY.out.below HB.out).cell 9)
      go_wp2_with fail
      refine (refword_any _ (s5 % 65536) v1 (by first | rfl | exact jmp_w64 _ _ | exact jmp_i64 _ _ | omega | (rw [HLT.out]; omega) | (simp only [w64_mod]; omega))).mono ?_
      rintro e u2 ⟨B2, rfl, hrd, b2⟩
      have HRD := Lib.hid hrd
      have HO := Lib.hid (HO.out.below b2)
      have HB := Lib.hid (HB.out.trans (b2.mono hzW))
      have hzW := HB.out.size
      clear hrd b2 y0 y2 y3 y4 y5 y6 y7 y8 y9
      go_wp2_with (at_builtin; refine wpList_appS rfl _ _ rfl (Lt w3.heap.size) _ 2 _ _ rfl HO.out _ _ 2 2 _ rfl HRD.out 4 rfl _ rfl (by omega) (fun q hq => Nat.lt_of_lt_of_le hq hzW) ?_; intro A2 c2 v2 o5 k5; have HB := Lib.hid (HB.out.trans (k5.below fun q hq => hq)); have HO := Lib.hid o5; clear o5 k5 HRD; have hzW := HB.out.size; have y0 : v2.cell? ⟨w.heap.size, 0, none⟩ = some (.int .i64 s0) := (HY.out.below HB.out).cell 0; have y2 : v2.cell? ⟨w.heap.size, 2, none⟩ = some (.int .i64 s2) := (HY.out.below HB.out).cell 2; have y3 : v2.cell? ⟨w.heap.size, 3, none⟩ = some (.int .u8 s3) := (HY.out.below HB.out).cell 3; have y4 : v2.cell? ⟨w.heap.size, 4, none⟩ = some (.int .u16 s4) := (HY.out.below HB.out).cell 4; have y5 : v2.cell? ⟨w.heap.size, 5, none⟩ = some (.int .i64 s5) := (HY.out.below HB.out).cell 5; have y6 : v2.cell? ⟨w.heap.size, 6, none⟩ = some (.int .i64 s6) := (HY.out.below HB.out).cell 6; have y7 : v2.cell? ⟨w.heap.size, 7, none⟩ = some (.slice tA tn tc) := (HY.out.below HB.out).cell 7; have y8 : v2.cell? ⟨w.heap.size, 8, none⟩ = some (.slice mA mn mc) := (HY.out.below HB.out).cell 8; have y9 : v2.cell? ⟨w.heap.size, 9, none⟩ = some (.int .u16 s7) := (HY.out.below HB.out).cell 9)
      go_returns
      rw [← HRR.out]
      exact ⟨_, _, _, rfl, by have := HO.out.less (S' := Lt w.heap.size) (fun q hq => Nat.lt_of_lt_of_le hq hz3); simpa [List.append_assoc, bodyD, bodyB] using this, HK.out.trans (HB.out.mono hz3)⟩
  · have hRR := HRES.out
    rw [if_neg her] at hRR
    have hne : (er != 0) = true := by simpa using her
    go_wp2_with fail
    go_returns
    rw [← hRR]
    exact ⟨none, 0, 0, rfl, OS.nil_, HK.out⟩
end Go.Proofs.YtolifmpkillglaaGreatDoor

set_option linter.unusedVariables false
set_option maxRecDepth 100000
namespace Go.Proofs.YtolifmpkillglaaGreatDoor
open Go.RowKit
/-! The document's Size; its bytes of what was read. -/
theorem rowsL_J (f : Int) (T : List Int) : ∀ k, rowsL f T [] k = rowsJ f T k
  | 0 => rfl
  | k + 1 => by
    unfold rowsL rowsJ
    rw [rowsL_J f T k, if_neg (by simp), List.nil_append]
theorem rowsL_M (f : Int) (T M : List Int) : ∀ k, k ≤ M.length → rowsL f T M k = rowsM f T M k
  | 0, _ => rfl
  | k + 1, h => by
    unfold rowsL rowsM
    rw [rowsL_M f T M k (by omega), if_pos (by omega)]
theorem bodyD_len (k : Nat) (hk : k < 12) (x : Ins) : (bodyD k x).length = hdS k + x.tab.length * rwS k := by
  have h : k = 0 ∨ k = 1 ∨ k = 2 ∨ k = 3 ∨ k = 4 ∨ k = 5 ∨ k = 6 ∨ k = 7 ∨ k = 8 ∨ k = 9 ∨ k = 10 ∨ k = 11 := by omega
  rcases h with rfl | rfl | rfl | rfl | rfl | rfl | rfl | rfl | rfl | rfl | rfl | rfl
  all_goals simp [bodyD, bodyB, hdS, rwS, wd2, rowsJ_len, rowsM_len] <;> omega
theorem bytesD_len (x : Ins) (h0 : 0 ≤ x.sc.op) (h1 : x.sc.op < 256) : (bytesD x).length = sizeP x := by
  unfold bytesD sizeP
  by_cases h : (ofC x.sc.op).2 = 0
  · rw [if_pos h, if_pos h, List.length_cons]
    obtain ⟨q, hq⟩ : ∃ q : Nat, x.sc.op = q := ⟨x.sc.op.toNat, by omega⟩
    have hk := kI_lt q (by omega)
    rw [← hq] at hk
    rw [bodyD_len _ hk.2]
    show _ = 1 + hdS ((ofC x.sc.op).1.imm).toNat + _ * rwS ((ofC x.sc.op).1.imm).toNat
    omega
  · rw [if_neg h, if_neg h]; rfl
theorem bodyD_eq (k : Nat) (x : Ins) (h6 : k = 6 → x.mat = []) (h7 : k = 7 → x.tab.length ≤ x.mat.length) : bodyD k x = bodyB k x := by
  unfold bodyD
  split
  · unfold bodyB; rw [h6 rfl, rowsL_J]; rfl
  · unfold bodyB; rw [rowsL_M _ _ _ _ (h7 rfl)]; rfl
  · rfl
theorem putD_eq (l : List Int) (i : Nat) (hr : rng l) (hi : i < l.length) (h : (insE l i).1 = 0) :
    l.take i ++ bytesD (insE l i).2.1 = l.take (insE l i).2.2 := by
  rw [← put_eq l i hr hi h]
  have ok := insE_ok l i hr hi h
  obtain ⟨q, cnt, b, b2, h0, hk, h1, hb, hc, h3, hb2, hck, hee⟩ := insE_inv l i hr h
  have e : bodyD ((ofC (l.getD i 0)).1.imm).toNat (insE l i).2.1 = bodyB ((ofC (l.getD i 0)).1.imm).toNat (insE l i).2.1 :=
    bodyD_eq _ _
      (fun h6 => by
        have hq : q = 6 := hk.symm.trans h6
        rw [hee]
        show matC q b2 cnt = []
        rw [hq]; rfl)
      (fun h7 => by
        have hq : q = 7 := hk.symm.trans h7
        rw [hee]
        show (tabC q i b2 cnt).length ≤ (matC q b2 cnt).length
        rw [hq, tabC_len, matC_len]; exact Nat.le_refl _)
  unfold bytesD
  rw [ok.2.1, if_pos h0, e]
set_option maxHeartbeats 2000000 in
theorem refsize_any (x : Ins) (r : RI) (w : World) (B : Nat) (T : Tab w) (h : InsR w B r x) (hB : B ≤ w.heap.size) (hok : x.sc.ok) (hn : r.tn ≤ 70000) (hm : r.mn ≤ 70000) :
    Calls Tryz.prog 8 #[r.val] w fun e w' => e = .returned (.int .i64 (sizeP x)) ∧ Below w.heap.size w w' := by
  have hlen := bytesD_len x hok.1.1 hok.1.2
  obtain ⟨⟨s0, s1, s2, s3, s4, s5, s6, s7⟩, tA, tn, tc, mA, mn, mc⟩ := r
  have HBY := Lib.hid (fun W (b : Below w.heap.size w W) => refbytes_any x ⟨⟨s0, s1, s2, s3, s4, s5, s6, s7⟩, tA, tn, tc, mA, mn, mc⟩ W B (T.below' b) (h.below b hB) (Nat.le_trans hB b.size) hok hn hm)
  rw [RI.val_eq] at HBY ⊢
  have HX := Lib.hid (Blk.new w #[.int .i64 s0, .int .u8 s1, .int .i64 s2, .int .u8 s3, .int .u16 s4, .int .i64 s5, .int .i64 s6, .slice tA tn tc, .slice mA mn mc, .int .u16 s7] 28)
  have HK := Lib.hid (below_new w (.cells #[.int .i64 s0, .int .u8 s1, .int .i64 s2, .int .u8 s3, .int .u16 s4, .int .i64 s5, .int .i64 s6, .slice tA tn tc, .slice mA mn mc, .int .u16 s7] 28))
  have HLN := Lib.hid hlen
  simp only at hn
  clear T h hok hlen
  go_enter Tryz.func8, Tryz.ntmps8
  go_upto_region 1 with (fail)
  generalize w.alloc (.cells #[.int .i64 s0, .int .u8 s1, .int .i64 s2, .int .u8 s3, .int .u16 s4, .int .i64 s5, .int .i64 s6, .slice tA tn tc, .slice mA mn mc, .int .u16 s7] 28) = w1 at HX HK ⊢
  have y7 : w1.cell? ⟨w.heap.size, 7, none⟩ = some (.slice tA tn tc) := HX.out.cell 7
  have hz := HK.out.size
  go_wp2_with ((with_reducible refine wpList_ldI rfl (.tmp 1) rfl HX.out ?_ ?_ ?_); exact rfl; exact rfl)
  refine (HBY.out _ HK.out).mono ?_
  rintro e w2 ⟨A2, N2, c2, rfl, o2, b2⟩
  have hN : N2 = sizeP x := by rw [← o2.len, HLN.out]
  subst hN
  have HB := Lib.hid (HK.out.trans (b2.mono hz))
  clear o2 b2 y7
  go_wp2_with fail
  go_returns
  exact ⟨rfl, HB.out⟩
end Go.Proofs.YtolifmpkillglaaGreatDoor

set_option linter.unusedVariables false
set_option maxRecDepth 100000
namespace Go.Proofs.YtolifmpkillglaaGreatDoor
open Go.RowKit
/-! The document's Put. -/
theorem insE_tab (l : List Int) (i : Nat) (hr : rng l) (hi : i < l.length) (h : (insE l i).1 = 0) : (insE l i).2.1.tab.length ≤ l.length := by
  obtain ⟨q, cnt, b, b2, h0, hk, h1, hb, hc, h3, hb2, hck, hee⟩ := insE_inv l i hr h
  rw [hee]
  show (tabC q i b2 cnt).length ≤ _
  rw [tabC_len]
  by_cases h6 : q = 6
  · subst h6
    have : rwS 6 = 2 := rfl
    rw [this] at h3
    omega
  · by_cases h7 : q = 7
    · subst h7
      have : rwS 7 = 4 := rfl
      rw [this] at h3
      omega
    · have : headR q b = 0 := by
        unfold headR
        split
        · exact absurd rfl h6
        · exact absurd rfl h7
        · rfl
      omega
set_option maxHeartbeats 4000000 in
theorem refput_any (l : List Int) (hr : rng l) (w : World) (A : Option Addr) (n c B : Nat) (rs : List RI) (T : TE w) (he : (readC l).1 = 0) (hv : IV w B A n rs (readC l).2) (hB : B ≤ w.heap.size) :
    Calls Tryz.prog 6 #[.slice A n c] w fun e w' => ∃ A' c', e = .returned (.tuple #[.slice A' l.length c', .int .i64 0]) ∧ OS w' (Lt w.heap.size) A' l.length c' l ∧ Below w.heap.size w w' := by
  obtain ⟨hl2, hl0, hF, _⟩ := readC_inv l he
  have hRL := readC_rows l hr
  have hrows := hv.rows hRL
  have hdl := hv.len
  have hDb := readC_len l hr
  have hrc : ReadSaid 15 l (0, (readC l).2) := by
    have e0 : (0, (readC l).2) = readC l := Prod.ext he.symm rfl
    rw [e0]
    exact refread_any l
  have HRC := Lib.hid hrc
  clear hrc
  generalize (readC l).2 = D at hv hF HRC hrows hdl hDb hRL
  have HRL := Lib.hid hRL
  have HP := Lib.hid (put_step l hr D)
  have HE := Lib.hid (put_end l D)
  have HQ := Lib.hid (putD_eq l)
  have HOK := Lib.hid (insE_ok l)
  have HTB := Lib.hid (insE_tab l)
  have HV := Lib.hid hv
  have HF := Lib.hid hF
  have HRW := Lib.hid hrows
  have HT := Lib.hid T
  have HR := Lib.hid hr
  clear hv hF hrows T he hr hRL
  go_enter Tryz.func6, Tryz.ntmps6
  go_wp2_with fail
  go_loopw [4, 5] (fun bs j wr => ∃ (k i f : Nat) (Ab : Option Addr) (cb : Nat), k ≤ n ∧ j = .int .i64 k ∧ bs = .slice Ab i cb ∧ i ≤ l.length ∧ l.length ≤ i + f ∧ readF l f i = (0, D.drop k) ∧ OS wr (Lt w.heap.size) Ab i cb (l.take i) ∧ Below w.heap.size w wr) (fun _ j _ => n - (intOf j).toNat)
  case atStart => exact ⟨0, 0, l.length, none, 0, Nat.zero_le _, rfl, rfl, Nat.zero_le _, by omega, HF.out, OS.nil_, Below.refl _ _⟩
  case round =>
    obtain ⟨k, i, f, Ab, cb, hk, rfl, rfl, hil, hif, hrd, hO, hb⟩ := hrel
    have i0 : (0 : Int) ≤ (k : Int) := by omega
    by_cases hlt : (k : Int) < (n : Int)
    · obtain ⟨hi, hie, hx, hsz, hile, hok, f', hrd', hif'⟩ := HP.out k i f (by omega) hif hrd
      have hpe := HQ.out i HR.out hi hie
      have hat := (HOK.out i HR.out hi hie).1
      have htb := HTB.out i HR.out hi hie
      have V := HV.out.below hb hB
      have hz := hb.size
      obtain ⟨b, o, hA, hbB, c0, c1, c2, c3, c4, c5, c6, c7, c8, c9⟩ := V.ten k (by omega)
      have R := V.each k (by omega)
      have hht := HRW.out k (by omega)
      have hbs : b < wr.heap.size := by omega
      rw [hx] at R
      generalize (insE l i).2.2 = i2 at hsz hile hrd' hif' hpe
      generalize (insE l i).2.1 = x at hsz hok hpe R hx hat htb
      generalize rs.getD k RI.zero = r at c0 c1 c2 c3 c4 c5 c6 c7 c8 c9 R hht
      obtain ⟨⟨s0, s1, s2, s3, s4, s5, s6, s7⟩, tA, tn, tc, mA, mn, mc⟩ := r
      simp only at c0 c1 c2 c3 c4 c5 c6 c7 c8 c9 hht
      have htn : tn ≤ 2000 := by have := R.tab.len; simp only at this; omega
      obtain rfl : s0 = (i : Int) := by rw [← hat, ← R.sc]
      have HB := Lib.hid hb
      have HO := Lib.hid hO
      have HBY := Lib.hid (refbytes_any x ⟨⟨(i : Int), s1, s2, s3, s4, s5, s6, s7⟩, tA, tn, tc, mA, mn, mc⟩ wr B (HT.out.below' hb).tab R (by omega) hok hht.1 hht.2)
      rw [RI.val_eq] at HBY
      have HLN := Lib.hid (bytesD_len x hok.1.1 hok.1.2)
      have hgt : decide ((tn : Int) > 2000) = false := by rw [decide_eq_false_iff_not]; omega
      have hgt2 : decide ((i : Int) > 2000) = false := by rw [decide_eq_false_iff_not]; omega
      have hnn : ((i : Int) != (i : Int)) = false := by simp
      have HRD := Lib.hid hrd'
      have HPE := Lib.hid hpe
      subst hA
      clear V hb R hht hO hx hat htb hok hrd hrd' hpe
      go_wp2_with fail
      refine HBY.out.mono ?_
      rintro e w2 ⟨A2, N2, c2', rfl, o2, b2⟩
      have hN : N2 = sizeP x := by rw [← o2.len, HLN.out]
      subst hN
      have HR2 := Lib.hid o2.rd
      have HB2 := Lib.hid (HB.out.trans (b2.mono hz))
      have HO2 := Lib.hid (HO.out.below b2)
      have hz2 : w.heap.size ≤ w2.heap.size := HB2.out.size
      clear o2 b2 c0 c1 c2 c3 c4 c5 c6 c7 c8 c9 HB HO
      go_wp2_with (at_builtin; refine wpList_appS rfl _ _ rfl (Lt w.heap.size) Ab i cb (l.take i) rfl HO2.out _ A2 (sizeP x) c2' (bytesD x) rfl HR2.out i2 hsz.symm (l.take i2) HPE.out.symm (by omega) (fun q hq => Nat.lt_of_lt_of_le hq hz2) ?_; intro A3 c3 w3 o3 k3; have HB3 := Lib.hid (HB2.out.trans (k3.below fun q hq => hq)); have HO3 := Lib.hid o3; clear o3 k3)
      go_roundw
      case rel => exact ⟨k + 1, i2, f', A3, c3, by omega, by go_num, rfl, by omega, hif', HRD.out, HO3.out, HB3.out⟩
      case measure => simp [intOf]; omega
    · obtain rfl : k = n := by omega
      have hie := HE.out k i f (by omega) hil hif hrd
      subst hie
      rw [List.take_length] at hO
      have hz := hb.size
      have HB := Lib.hid hb
      have HO := Lib.hid hO
      have HTT := Lib.hid (HT.out.below' hb)
      have HAA := Lib.hid (HRC.out wr wr.heap.size Ab l.length cb HTT.out hO.rd hO.le (by omega) (Nat.le_refl _))
      clear hO hb hrd
      go_wp2_with fail
      refine HAA.out.mono ?_
      rintro e w5 ⟨A5, c5, rs5, rfl, N5, b5⟩
      have hz5 := b5.size
      have HB := Lib.hid (HB.out.trans (b5.mono hz))
      have HO := Lib.hid (HO.out.below b5)
      have HRW5 := IV.rows N5.iv HRL.out
      have HEQ := Lib.hid (instrs_eq D w5 A5 A k c5 c _ B rs5 rs (hdl ▸ N5.iv) (HV.out.below HB.out hB) (Nat.le_refl _) (by omega) (by omega) (fun i hi => HRW5 i (by omega)))
      clear HRW5
      clear N5 b5
      go_wp2_with (go_at_call 16; refine HEQ.out.mono ?_; rintro e w6 ⟨rfl, b6⟩; have HB := Lib.hid (HB.out.trans (b6.mono (by omega))); have HO := Lib.hid (HO.out.below b6); clear b6 HEQ)
      go_returns
      exact ⟨_, _, rfl, HO.out, HB.out⟩
end Go.Proofs.YtolifmpkillglaaGreatDoor

set_option linter.unusedVariables false
set_option maxRecDepth 100000
namespace Go.Proofs.YtolifmpkillglaaGreatDoor
open Go.RowKit
/-! The document's Put of what is no code. -/
/-- What Instrs answers of whatever instructions (Jr proves it). -/
def InstrsU : Prop := ∀ (l1 l2 : List Ins) (w : World) (A1 A2 : Option Addr) (n1 n2 c1 c2 B1 B2 : Nat) (rs1 rs2 : List RI) (h1 : IV w B1 A1 n1 rs1 l1) (h2 : IV w B2 A2 n2 rs2 l2) (hB1 : B1 ≤ w.heap.size) (hB2 : B2 ≤ w.heap.size) (hn : n1 ≤ 281474976710656) (hn2 : n2 ≤ 281474976710656)
    (ht : ∀ i, i < n1 → (rs1.getD i RI.zero).tn ≤ 70000 ∧ (rs1.getD i RI.zero).mn ≤ 70000) (ht2 : ∀ i, i < n2 → (rs2.getD i RI.zero).tn ≤ 70000 ∧ (rs2.getD i RI.zero).mn ≤ 70000), Calls Tryz.prog 16 #[.slice A1 n1 c1, .slice A2 n2 c2] w fun e w' => EqT e (l1 = l2) ∧ Below w.heap.size w w'
theorem hdS_le (k : Nat) : hdS k ≤ 6 := by unfold hdS; split <;> omega
theorem rwS_le (k : Nat) : rwS k ≤ 4 := by unfold rwS; split <;> omega
theorem sizeP_le (x : Ins) : sizeP x ≤ 7 + 4 * x.tab.length := by
  unfold sizeP
  have h1 := hdS_le (kO x.sc.op)
  have h2 := Nat.mul_le_mul_left x.tab.length (rwS_le (kO x.sc.op))
  split <;> omega
set_option maxHeartbeats 4000000 in
theorem refputno_any (hIU : InstrsU) (l : List Ins) (w : World) (A : Option Addr) (n c B : Nat) (rs : List RI) (T : TE w) (hv : IV w B A n rs l) (hB : B ≤ w.heap.size) (hn : n ≤ 281474976710656) (ht : ∀ i, i < n → (rs.getD i RI.zero).tn ≤ 70000 ∧ (rs.getD i RI.zero).mn ≤ 70000) (hno : ¬ isCode l) :
    Calls Tryz.prog 6 #[.slice A n c] w fun e w' => e = .returned (.tuple #[.slice none 0 0, .int .i64 2]) ∧ Below w.heap.size w w' := by
  have HV := Lib.hid hv
  have HT := Lib.hid T
  have HRW := Lib.hid ht
  have HNO := Lib.hid hno
  have HIU := Lib.hid hIU
  clear hv T ht hno hIU
  go_enter Tryz.func6, Tryz.ntmps6
  go_wp2_with fail
  go_loopw [4, 5] (fun bs j wr => ∃ (k i : Nat) (Ab : Option Addr) (cb : Nat) (L : List Int), k ≤ n ∧ j = .int .i64 k ∧ bs = .slice Ab i cb ∧ i ≤ 300000 ∧ OS wr (Lt w.heap.size) Ab i cb L ∧ Below w.heap.size w wr) (fun _ j _ => n - (intOf j).toNat)
  case atStart => exact ⟨0, 0, none, 0, [], Nat.zero_le _, rfl, rfl, by omega, OS.nil_, Below.refl _ _⟩
  case round =>
    obtain ⟨k, i, Ab, cb, L, hk, rfl, rfl, hil, hO, hb⟩ := hrel
    have i0 : (0 : Int) ≤ (k : Int) := by omega
    have hz := hb.size
    have HB := Lib.hid hb
    by_cases hlt : (k : Int) < (n : Int)
    · have V := HV.out.below hb hB
      obtain ⟨b, o, hA, hbB, c0, c1, c2, c3, c4, c5, c6, c7, c8, c9⟩ := V.ten k (by omega)
      have R := V.each k (by omega)
      have hok := allok_getD (R := riR) V.rv.rg k
      have hht := HRW.out k (by omega)
      have hbs : b < wr.heap.size := by omega
      change ((rs.getD k RI.zero).sc).ok at hok
      generalize l.getD k Ins.zero = x at R
      generalize rs.getD k RI.zero = r at c0 c1 c2 c3 c4 c5 c6 c7 c8 c9 R hht hok
      rw [R.sc] at hok
      have htl := R.tab.len
      obtain ⟨⟨s0, s1, s2, s3, s4, s5, s6, s7⟩, tA, tn, tc, mA, mn, mc⟩ := r
      simp only at c0 c1 c2 c3 c4 c5 c6 c7 c8 c9 hht htl
      have HBY := Lib.hid (refbytes_any x ⟨⟨s0, s1, s2, s3, s4, s5, s6, s7⟩, tA, tn, tc, mA, mn, mc⟩ wr B (HT.out.below' hb).tab R (by omega) hok hht.1 hht.2)
      rw [RI.val_eq] at HBY
      have HLN := Lib.hid (bytesD_len x hok.1.1 hok.1.2)
      have HSL := Lib.hid (sizeP_le x)
      have HTL := Lib.hid htl
      have HO := Lib.hid hO
      subst hA
      clear V hb R hO htl hok
      by_cases hat : s0 = (i : Int)
      case neg =>
        have h1 : (s0 != (i : Int)) = true := by simpa using hat
        clear hat HBY
        go_wp2_with fail
        go_returns
        exact ⟨rfl, HB.out⟩
      subst hat
      have hnn : ((i : Int) != (i : Int)) = false := by simp
      by_cases hgt : (tn : Int) > 2000
      case pos =>
        have h2 : decide ((tn : Int) > 2000) = true := decide_eq_true hgt
        clear HBY
        go_wp2_with fail
        go_returns
        exact ⟨rfl, HB.out⟩
      have h2 : decide ((tn : Int) > 2000) = false := decide_eq_false hgt
      by_cases hgi : (i : Int) > 2000
      case pos =>
        have h3 : decide ((i : Int) > 2000) = true := decide_eq_true hgi
        clear HBY
        go_wp2_with fail
        go_returns
        exact ⟨rfl, HB.out⟩
      have h3 : decide ((i : Int) > 2000) = false := decide_eq_false hgi
      go_wp2_with fail
      refine HBY.out.mono ?_
      rintro e w2 ⟨A2, N2, c2', rfl, o2, b2⟩
      have hN : N2 = sizeP x := by rw [← o2.len, HLN.out]
      subst hN
      have hsz : sizeP x ≤ 8007 := by have h4 := HSL.out; have h5 := HTL.out; omega
      have HR2 := Lib.hid o2.rd
      have HB2 := Lib.hid (HB.out.trans (b2.mono hz))
      have HO2 := Lib.hid (HO.out.below b2)
      have hz2 : w.heap.size ≤ w2.heap.size := HB2.out.size
      clear o2 b2 c0 c1 c2 c3 c4 c5 c6 c7 c8 c9 HB HO
      go_wp2_with (at_builtin; refine wpList_appS rfl _ _ rfl (Lt w.heap.size) Ab i cb L rfl HO2.out _ A2 (sizeP x) c2' (bytesD x) rfl HR2.out (i + sizeP x) rfl (L ++ bytesD x) rfl (by omega) (fun q hq => Nat.lt_of_lt_of_le hq hz2) ?_; intro A3 c3 w3 o3 k3; have HB3 := Lib.hid (HB2.out.trans (k3.below fun q hq => hq)); have HO3 := Lib.hid o3; clear o3 k3)
      go_roundw
      case rel => exact ⟨k + 1, i + sizeP x, A3, c3, _, by omega, by go_num, rfl, by omega, HO3.out, HB3.out⟩
      case measure => simp [intOf]; omega
    · obtain rfl : k = n := by omega
      have HO := Lib.hid hO
      have HTT := Lib.hid (HT.out.below' hb)
      have hRL := readC_rows L hO.rd.rg
      have hDl := readC_len L hO.rd.rg
      have hno : (readC L).1 = 0 → ¬ (readC L).2 = l := fun h0 hE => HNO.out ⟨L, hO.rd.rg, by rw [← hE, ← h0]⟩
      have HAA := Lib.hid (refread_any L wr wr.heap.size Ab i cb HTT.out hO.rd hO.le (by omega) (Nat.le_refl _))
      generalize readC L = R at HAA hRL hno hDl
      obtain ⟨E, D⟩ := R
      simp only at HAA hRL hno hDl
      have HRL := Lib.hid hRL
      have HN2 := Lib.hid hno
      clear hO hb hRL hno
      go_wp2_with fail
      refine HAA.out.mono ?_
      rintro e w5 ⟨A5, c5, rs5, rfl, N5, b5⟩
      have hz5 := b5.size
      have HB := Lib.hid (HB.out.trans (b5.mono hz))
      by_cases hE : E = 0
      · subst hE
        have HEQ := Lib.hid (HIU.out D l w5 A5 A D.length k c5 c _ B rs5 rs N5.iv (HV.out.below HB.out hB) (Nat.le_refl _) (by omega) (by omega) (by omega) (IV.rows N5.iv HRL.out) HRW.out)
        clear N5 b5
        go_wp2_with (go_at_call 16; refine HEQ.out.mono ?_; rintro e w6 ⟨⟨bb, rfl, hbb⟩, b6⟩; have HB := Lib.hid (HB.out.trans (b6.mono (by omega))); obtain rfl : bb = false := (by cases bb with | false => rfl | true => exact absurd (hbb rfl) (by first | exact HN2.out trivial | exact HN2.out rfl)); clear b6 HEQ hbb)
        go_returns
        exact ⟨rfl, HB.out⟩
      · have hne : (E != 0) = true := by simpa using hE
        clear N5 b5 hE
        go_wp2_with fail
        go_returns
        exact ⟨rfl, HB.out⟩
end Go.Proofs.YtolifmpkillglaaGreatDoor

set_option linter.unusedVariables false
set_option maxRecDepth 100000
namespace Go.Proofs.YtolifmpkillglaaGreatDoor
open Go.ChangeShapes Go.WideShapes Go.ChangeAt Go.RowKit Go.Joins Go.Deep
/-! Arguments that are rows of instructions. -/
theorem listJ {α : Type} (d : α) (p : Nat → α → Prop) : ∀ n, (∀ i, i < n → ∃ a, p i a) → ∃ l : List α, l.length = n ∧ ∀ i, i < n → p i (l.getD i d)
  | 0, _ => ⟨[], rfl, fun i hi => absurd hi (by omega)⟩
  | n + 1, h => by
    obtain ⟨l, hl, hp⟩ := listJ d p n (fun i hi => h i (by omega))
    obtain ⟨a, ha⟩ := h n (by omega)
    refine ⟨l ++ [a], by rw [List.length_append, hl]; rfl, fun i hi => ?_⟩
    by_cases hin : i < n
    · have := hp i hin
      rw [List.getD_eq_getElem?_getD] at this ⊢
      rwa [List.getElem?_append_left (by omega)]
    · obtain rfl : i = n := by omega
      rw [List.getD_eq_getElem?_getD, List.getElem?_append_right (by omega), hl, Nat.sub_self]
      exact ha
section
variable {H : Type} {enc : TypeId × Value → H} {P : Program} {w : World} {base : Nat} {held : Bool} {α : Type}
theorem rowsQ (R : Rec α) (Q : α → Prop) {t e : TypeId} {fuel : Nat} {cs : List Value} {x : DataW H × List MemPlace} (ht : P.underlying t = some (.slice e)) (hC : P.cellsOf e = R.m)
    (hel : ∀ n cs x, DataW.trod enc P w base (fun _ => true) held n e cs = some x → ∃ a, cs = R.enc a ∧ R.ok a ∧ Q a)
    (h : DataW.trod enc P w base (fun _ => true) held fuel t cs = some x) :
    ∃ A n c l, cs = [.slice A n c] ∧ n ≤ c ∧ RV R w w.heap.size A n l ∧ Dat x.1 n c ∧ ∀ i, i < n → Q (l.getD i R.d) := by
  rcases open_slice ht h with ⟨rfl, rfl⟩ | ⟨a, n, c, m, k, D, Pl, rfl, _, hl, _, hm, rfl, hi⟩
  · exact ⟨none, 0, 0, [], rfl, Nat.le_refl _, RV.none_, .inl ⟨rfl, rfl⟩, fun i hi => absurd hi (by omega)⟩
  · simp only [if_true] at hm
    subst hm
    obtain ⟨l, hlen, hl2⟩ := listJ R.d (fun i (z : α) => (R.ok z ∧ Q z) ∧ ∀ j, j < R.m → w.cell? ((a.add (i * R.m)).add j) = (R.enc z)[j]?) n (fun i hin => by
      obtain ⟨cs', h1, h2⟩ := hi i (by omega)
      obtain ⟨z, rfl, hz⟩ := hel _ _ _ h2
      rw [hC] at h1
      obtain ⟨_, _, hc⟩ := World.cells?_some h1
      exact ⟨z, hz, hc⟩)
    refine ⟨some a, n, m, l, rfl, hl, ⟨hlen, ?_, fun hn => ?_⟩, .inr ⟨_, _, rfl, by simp; omega⟩, fun i hi => (hl2 i hi).1.2⟩
    · intro z hz
      obtain ⟨i, hi1, rfl⟩ := List.getElem_of_mem hz
      have := (hl2 i (by omega)).1.1
      rwa [List.getD_eq_getElem?_getD, List.getElem?_eq_getElem hi1] at this
    · obtain ⟨b, off, spot⟩ := a
      have hp := R.pos
      have h0 := (hl2 0 hn).2 0 hp
      have hlt : 0 < (R.enc (l.getD 0 R.d)).length := by rw [R.len]; exact hp
      rw [List.getElem?_eq_getElem hlt] at h0
      have hspot : spot = none := by simpa [Addr.add] using World.cell?_spot h0
      subst hspot
      refine ⟨b, off, rfl, ?_, fun i hin j hj => ?_⟩
      · exact World.block_lt_of_cell? w ⟨b, off, none⟩ (by simpa [Addr.add] using h0)
      · have := (hl2 i hin).2 j hj
        rw [← this, Addr.add_lit, Addr.add_lit]
        congr 2
        omega
end
theorem u8_wfJ {a : Int} (h : (Lit.int .u8 a).wf = true) : 0 ≤ a ∧ a < 256 := by
  have : 0 ≤ a ∧ a ≤ 255 := by simpa [Lit.wf, IntKind.min, IntKind.max, IntKind.signed, IntKind.bits] using h
  omega
theorem u16_wfJ {a : Int} (h : (Lit.int .u16 a).wf = true) : 0 ≤ a ∧ a < 65536 := by
  have : 0 ≤ a ∧ a ≤ 65535 := by simpa [Lit.wf, IntKind.min, IntKind.max, IntKind.signed, IntKind.bits] using h
  omega
theorem trod_struct10 {H : Type} {enc : TypeId × Value → H} {P : Program} {w : World} {base : Nat} {spare : Nat → Bool} {held : Bool} {t : TypeId} {f0 f1 f2 f3 f4 f5 f6 f7 f8 f9 : Field} {fuel : Nat} {cs : List Value} {x : DataW H × List MemPlace} (ht : P.underlying t = some (.struct #[f0, f1, f2, f3, f4, f5, f6, f7, f8, f9])) (h : DataW.trod enc P w base spare held fuel t cs = some x) :
    ∃ y0 y1 y2 y3 y4 y5 y6 y7 y8 y9 n, cs.length = P.cellsOf t ∧ DataW.trod enc P w base spare held n f0.type ((cs.drop f0.offset).take (P.cellsOf f0.type)) = some y0 ∧ DataW.trod enc P w base spare held n f1.type ((cs.drop f1.offset).take (P.cellsOf f1.type)) = some y1 ∧ DataW.trod enc P w base spare held n f2.type ((cs.drop f2.offset).take (P.cellsOf f2.type)) = some y2 ∧ DataW.trod enc P w base spare held n f3.type ((cs.drop f3.offset).take (P.cellsOf f3.type)) = some y3 ∧ DataW.trod enc P w base spare held n f4.type ((cs.drop f4.offset).take (P.cellsOf f4.type)) = some y4 ∧ DataW.trod enc P w base spare held n f5.type ((cs.drop f5.offset).take (P.cellsOf f5.type)) = some y5 ∧ DataW.trod enc P w base spare held n f6.type ((cs.drop f6.offset).take (P.cellsOf f6.type)) = some y6 ∧ DataW.trod enc P w base spare held n f7.type ((cs.drop f7.offset).take (P.cellsOf f7.type)) = some y7 ∧ DataW.trod enc P w base spare held n f8.type ((cs.drop f8.offset).take (P.cellsOf f8.type)) = some y8 ∧ DataW.trod enc P w base spare held n f9.type ((cs.drop f9.offset).take (P.cellsOf f9.type)) = some y9 := by
  obtain ⟨xs, n, _, rfl, hl, hlen, hf⟩ := DataW.trod_struct ht h
  match xs, hlen with
  | [y0, y1, y2, y3, y4, y5, y6, y7, y8, y9], _ => exact ⟨y0, y1, y2, y3, y4, y5, y6, y7, y8, y9, n, hl, by simpa using hf 0 f0 rfl, by simpa using hf 1 f1 rfl, by simpa using hf 2 f2 rfl, by simpa using hf 3 f3 rfl, by simpa using hf 4 f4 rfl, by simpa using hf 5 f5 rfl, by simpa using hf 6 f6 rfl, by simpa using hf 7 f7 rfl, by simpa using hf 8 f8 rfl, by simpa using hf 9 f9 rfl⟩
theorem cellsIn : Tryz.prog.cellsOf 28 = 10 := by kernel_rfl
theorem cellsIntJ : Tryz.prog.cellsOf 3 = 1 := by kernel_rfl
theorem cellsOpJ : Tryz.prog.cellsOf 23 = 1 := by kernel_rfl
theorem cellsWoJ : Tryz.prog.cellsOf 24 = 1 := by kernel_rfl
theorem cellsIsJ : Tryz.prog.cellsOf 25 = 1 := by kernel_rfl
theorem cellsWsJ : Tryz.prog.cellsOf 26 = 1 := by kernel_rfl
theorem open_ins {H : Type} {enc : TypeId × Value → H} {w : World} {base : Nat} {held : Bool} {fuel : Nat} {cs : List Value} {x : DataW H × List MemPlace}
    (h : DataW.trod enc Tryz.prog w base (fun _ => true) held fuel 28 cs = some x) : ∃ r : RI, cs = riR.enc r ∧ riR.ok r ∧ ∃ z, InsR w w.heap.size r z := by
  obtain ⟨y0, y1, y2, y3, y4, y5, y6, y7, y8, y9, n, hl, h0, h1, h2, h3, h4, h5, h6, h7, h8, h9⟩ := trod_struct10 Tryz.underlying28 h
  rw [cellsIn] at hl
  match cs, hl with
  | [c0, c1, c2, c3, c4, c5, c6, c7, c8, c9], _ =>
    simp only [cellsIntJ, List.drop_zero, List.take_succ_cons, List.take_zero] at h0
    simp only [cellsOpJ, List.drop_zero, List.drop_succ_cons, List.take_succ_cons, List.take_zero] at h1
    simp only [cellsIntJ, List.drop_zero, List.drop_succ_cons, List.take_succ_cons, List.take_zero] at h2
    simp only [cellsU, List.drop_zero, List.drop_succ_cons, List.take_succ_cons, List.take_zero] at h3
    simp only [cellsWoJ, List.drop_zero, List.drop_succ_cons, List.take_succ_cons, List.take_zero] at h4
    simp only [cellsIntJ, List.drop_zero, List.drop_succ_cons, List.take_succ_cons, List.take_zero] at h5
    simp only [cellsIntJ, List.drop_zero, List.drop_succ_cons, List.take_succ_cons, List.take_zero] at h6
    simp only [cellsIsJ, List.drop_zero, List.drop_succ_cons, List.take_succ_cons, List.take_zero] at h7
    simp only [cellsWsJ, List.drop_zero, List.drop_succ_cons, List.take_succ_cons, List.take_zero] at h8
    simp only [cellsWoJ, List.drop_zero, List.drop_succ_cons, List.take_succ_cons, List.take_zero] at h9
    obtain ⟨a0, e0, rfl, w0⟩ := DataW.trod_int Tryz.underlying3 h0
    obtain ⟨a1, e1, rfl, w1⟩ := DataW.trod_int Tryz.underlying23 h1
    obtain ⟨a2, e2, rfl, w2⟩ := DataW.trod_int Tryz.underlying3 h2
    obtain ⟨a3, e3, rfl, w3⟩ := DataW.trod_int Tryz.underlying5 h3
    obtain ⟨a4, e4, rfl, w4⟩ := DataW.trod_int Tryz.underlying24 h4
    obtain ⟨a5, e5, rfl, w5⟩ := DataW.trod_int Tryz.underlying3 h5
    obtain ⟨a6, e6, rfl, w6⟩ := DataW.trod_int Tryz.underlying3 h6
    obtain ⟨tA, tn, tc, tab, e7, tle, htab, _, _⟩ := rowsQ inR (fun _ => True) Tryz.underlying25 cellsIntJ (fun n cs x hx => by
      obtain ⟨a, e, _, _⟩ := DataW.trod_int Tryz.underlying3 hx
      exact ⟨a, e, trivial, trivial⟩) h7
    obtain ⟨mA, mn, mc, mat, e8, mle, hmat, _, _⟩ := rowsQ woR (fun _ => True) Tryz.underlying26 cellsWoJ (fun n cs x hx => by
      obtain ⟨a, e, _, wf⟩ := DataW.trod_int Tryz.underlying24 hx
      exact ⟨a, e, u16_wfJ wf, trivial⟩) h8
    obtain ⟨a9, e9, rfl, w9⟩ := DataW.trod_int Tryz.underlying24 h9
    simp only [List.cons.injEq, and_true] at e0 e1 e2 e3 e4 e5 e6 e7 e8 e9
    subst e0 e1 e2 e3 e4 e5 e6 e7 e8 e9
    exact ⟨⟨⟨a0, a1, a2, a3, a4, a5, a6, a9⟩, tA, tn, tc, mA, mn, mc⟩, rfl, ⟨u8_wfJ w1, u8_wfJ w3, u16_wfJ w4, u16_wfJ w9⟩, ⟨⟨a0, a1, a2, a3, a4, a5, a6, a9⟩, tab, mat⟩, rfl, htab, hmat, tle, mle⟩
theorem arg_instrs {H : Type} {enc : TypeId × Value → H} {W : World} {base : Nat} {v : Value} {d : DataW H} {p : List MemPlace}
    (hval : Value.okWide Tryz.prog W .any base 22 v) (h0 : DataW.Trod enc Tryz.prog W 0 (fun _ => true) true 22 v d p) :
    ∃ A n c l rs, v = .slice A n c ∧ n ≤ c ∧ IV W W.heap.size A n rs l ∧ Dat d n c := by
  obtain ⟨A, n, c, rfl⟩ := okWide_slice Tryz.underlying22 hval
  obtain ⟨fuel, hf⟩ := h0
  obtain ⟨A', n', c', rs, e, hn, hr, hD, hq⟩ := rowsQ riR (fun r => ∃ z, InsR W W.heap.size r z) Tryz.underlying22 cellsIn (fun n cs x hx => open_ins hx) hf
  simp [Value.cells] at e
  obtain ⟨rfl, rfl, rfl⟩ := e
  obtain ⟨l, hl, he⟩ := listJ Ins.zero (fun i z => InsR W W.heap.size (rs.getD i RI.zero) z) n hq
  exact ⟨A, n, c, l, rs, rfl, hn, ⟨hr, hl, he⟩, hD⟩
theorem bytesIn : 2 ≤ Tryz.prog.bytesOf 28 := by decide +kernel
theorem fitsI {H : Type} {ts : List TypeId} {ds : List (DataW H)} (h : (DataW.weightsEach Tryz.prog ts ds).all (· ≤ reachBytes) = true) (j : Nat) {d : DataW H} {n c : Nat} (ht : ts[j]? = some 22) (hd : ds[j]? = some d) (hD : Dat d n c) (hn : n ≤ c) : n ≤ 140737488351232 := by
  rcases hD with ⟨rfl, rfl⟩ | ⟨e, s, rfl, hl⟩
  · omega
  · have := sized_slice h ht hd Tryz.underlying22
    rw [hl] at this
    have h2 := Nat.mul_le_mul_left c bytesIn
    unfold reachBytes at this
    omega
end Go.Proofs.YtolifmpkillglaaGreatDoor

set_option linter.unusedVariables false
set_option maxRecDepth 100000
namespace Go.Proofs.YtolifmpkillglaaGreatDoor
open Go.RowKit
/-! CodePuts: the walk. Printed by tools/genJy.py. -/
def TenS (b p : Nat) (s0 s1 s2 s3 s4 s5 s6 s7 : Int) (tA mA : Option Addr) (tn tc mn mc : Nat) (wr W : World) : Prop := W.cell? ⟨b, p, none⟩ = some (.int .i64 s0) ∧ W.cell? ⟨b, p + 1, none⟩ = some (.int .u8 s1) ∧ W.cell? ⟨b, p + 2, none⟩ = some (.int .i64 s2) ∧ W.cell? ⟨b, p + 3, none⟩ = some (.int .u8 s3) ∧ W.cell? ⟨b, p + 4, none⟩ = some (.int .u16 s4) ∧ W.cell? ⟨b, p + 5, none⟩ = some (.int .i64 s5) ∧ W.cell? ⟨b, p + 6, none⟩ = some (.int .i64 s6) ∧ W.cell? ⟨b, p + 7, none⟩ = some (.slice tA tn tc) ∧ W.cell? ⟨b, p + 8, none⟩ = some (.slice mA mn mc) ∧ W.cell? ⟨b, p + 9, none⟩ = some (.int .u16 s7) ∧ Below wr.heap.size wr W
theorem TenS.keep {b p : Nat} {s0 s1 s2 s3 s4 s5 s6 s7 : Int} {tA mA : Option Addr} {tn tc mn mc : Nat} {wr W W' : World} (h : TenS b p s0 s1 s2 s3 s4 s5 s6 s7 tA mA tn tc mn mc wr W) (hb : Below W.heap.size W W') : TenS b p s0 s1 s2 s3 s4 s5 s6 s7 tA mA tn tc mn mc wr W' := by
  obtain ⟨c0, c1, c2, c3, c4, c5, c6, c7, c8, c9, hB⟩ := h
  have hl : b < W.heap.size := World.block_lt_of_cell? W _ c0
  exact ⟨(hb.cell hl).trans c0, (hb.cell hl).trans c1, (hb.cell hl).trans c2, (hb.cell hl).trans c3, (hb.cell hl).trans c4, (hb.cell hl).trans c5, (hb.cell hl).trans c6, (hb.cell hl).trans c7, (hb.cell hl).trans c8, (hb.cell hl).trans c9, hB.trans (hb.mono hB.size)⟩
def PutsSaid (f : FuncId) (l : List Ins) (E : Int) (L : List Int) : Prop :=
  ∀ (w : World) (A : Option Addr) (n c B : Nat) (rs : List RI), TE w → IV w B A n rs l → B ≤ w.heap.size → n ≤ 281474976710656 → (∀ i, i < n → (rs.getD i RI.zero).tn ≤ 70000 ∧ (rs.getD i RI.zero).mn ≤ 70000) →
    Calls Tryz.prog f #[.slice A n c] w fun e w' => ∃ A' c', e = .returned (.tuple #[.slice A' L.length c', .int .i64 E]) ∧ OS w' (Lt w.heap.size) A' L.length c' L ∧ Below w.heap.size w w'
theorem puts_both (hIU : InstrsU) (l : List Ins) : ∃ E L, L.length ≤ 2000 ∧ PutsSaid 5 l E L ∧ PutsSaid 6 l E L := by
  by_cases h : isCode l
  · obtain ⟨b, hr, hb⟩ := h
    have he : (readC b).1 = 0 := by rw [hb]
    have hl : (readC b).2 = l := by rw [hb]
    obtain ⟨h2, _, _, _⟩ := readC_inv b he
    subst hl
    exact ⟨0, b, h2, fun w A n c B rs T hv hB _ _ => put_any b hr w A n c B rs T he hv hB, fun w A n c B rs T hv hB _ _ => refput_any b hr w A n c B rs T he hv hB⟩
  · refine ⟨2, [], Nat.zero_le _, fun w A n c B rs T hv hB hn ht => ?_, fun w A n c B rs T hv hB hn ht => ?_⟩
    · refine (putno_any l w A n c B rs T hv hB hn ht h).mono ?_
      rintro e w' ⟨rfl, hb⟩
      exact ⟨none, 0, rfl, OS.nil_, hb⟩
    · refine (refputno_any hIU l w A n c B rs T hv hB hn ht h).mono ?_
      rintro e w' ⟨rfl, hb⟩
      exact ⟨none, 0, rfl, OS.nil_, hb⟩
set_option maxHeartbeats 4000000 in
theorem walk_puts (hIU : InstrsU) (A : Option Addr) (n c : Nat) (l : List Ins) (rs : List RI) (w : World) (T : TE w) (hv : IV w w.heap.size A n rs l) (hn : n ≤ 140737488351232) :
    Calls Tryz.prog 3 #[.slice A n c] w fun e w' => e = .returned (.bool true) ∧ Below w.heap.size w w' := by
  obtain ⟨E, L, hL, h1, h2⟩ := puts_both hIU l
  have HV := Lib.hid hv
  have HT := Lib.hid T
  have HP1 := Lib.hid h1
  have HP2 := Lib.hid h2
  clear hv T h1 h2 hIU
  go_enter Tryz.func3, Tryz.ntmps3
  go_wp2_with fail
  go_loopw [3] (fun i wr => ∃ k : Nat, k ≤ n ∧ i = .int .i64 k ∧ (∀ j, j < k → (rs.getD j RI.zero).tn ≤ 3000 ∧ (rs.getD j RI.zero).mn ≤ 3000) ∧ Below w.heap.size w wr) (fun i _ => n - (intOf i).toNat)
  case atStart => exact ⟨0, Nat.zero_le _, rfl, fun j hj => absurd hj (by omega), Below.refl _ _⟩
  case round =>
    obtain ⟨k, hk, rfl, hall, hb⟩ := hrel
    have i0 : (0 : Int) ≤ (k : Int) := by omega
    have hz := hb.size
    have HB := Lib.hid hb
    have HALL := Lib.hid hall
    clear hb hall
    by_cases hlt : (k : Int) < (n : Int)
    · obtain ⟨b, o, hA, hbB, c0, c1, c2, c3, c4, c5, c6, c7, c8, c9⟩ := (HV.out.below HB.out (Nat.le_refl _)).ten k (by omega)
      have hnx : (rs.getD k RI.zero).tn ≤ 3000 → (rs.getD k RI.zero).mn ≤ 3000 → ∀ j, j < k + 1 → (rs.getD j RI.zero).tn ≤ 3000 ∧ (rs.getD j RI.zero).mn ≤ 3000 := fun h1 h2 j hj => by
        by_cases hjk : j < k
        · exact HALL.out j hjk
        · obtain rfl : j = k := by omega
          exact ⟨h1, h2⟩
      have HNX := Lib.hid hnx
      generalize rs.getD k RI.zero = r at c0 c1 c2 c3 c4 c5 c6 c7 c8 c9 HNX
      obtain ⟨⟨s0, s1, s2, s3, s4, s5, s6, s7⟩, tA, tn, tc, mA, mn, mc⟩ := r
      simp only at c0 c1 c2 c3 c4 c5 c6 c7 c8 c9
      have hTT := HT.out.below' HB.out
      have HW := Lib.hid (works_any wr hTT)
      subst hA
      clear hnx hTT c0 c1 c2 c3 c4 c5 c6 c9
      by_cases h3 : (tn : Int) > 3000
      · have d3 : decide ((tn : Int) > 3000) = true := decide_eq_true h3
        go_wp2_with fail
        refine HW.out.mono ?_
        rintro e w2 ⟨rfl, b2⟩
        go_wp2_with fail
        go_returns
        exact ⟨rfl, HB.out.trans (b2.mono hz)⟩
      · have d3 : decide ((tn : Int) > 3000) = false := decide_eq_false h3
        by_cases h4 : (mn : Int) > 3000
        · have d4 : decide ((mn : Int) > 3000) = true := decide_eq_true h4
          go_wp2_with fail
          refine HW.out.mono ?_
          rintro e w2 ⟨rfl, b2⟩
          go_wp2_with fail
          go_returns
          exact ⟨rfl, HB.out.trans (b2.mono hz)⟩
        · have d4 : decide ((mn : Int) > 3000) = false := decide_eq_false h4
          have HN2 := Lib.hid (HNX.out (by show tn ≤ 3000; omega) (by show mn ≤ 3000; omega))
          clear HNX
          go_wp2_with fail
          go_roundw
          case rel => exact ⟨k + 1, by omega, by go_num, HN2.out, HB.out⟩
          case measure => simp [intOf]; omega
    · obtain rfl : k = n := by omega
      have HTT := Lib.hid (HT.out.below' HB.out)
      have HV := Lib.hid (HV.out.below HB.out (Nat.le_refl _))
      have HRW : Hid (∀ i, i < k → (rs.getD i RI.zero).tn ≤ 70000 ∧ (rs.getD i RI.zero).mn ≤ 70000) := Lib.hid (fun i hi => by have := HALL.out i hi; omega)
      have HA := Lib.hid (HP1.out wr A k c w.heap.size rs HTT.out HV.out hz (by omega) HRW.out)
      go_wp2_with fail
      refine HA.out.mono ?_
      rintro e w2 ⟨A2, c2, rfl, O2, b2⟩
      have hz2 : wr.heap.size ≤ w2.heap.size := b2.size
      have HB := Lib.hid (HB.out.trans (b2.mono hz))
      have HTT := Lib.hid (HTT.out.below' b2)
      have HV := Lib.hid (HV.out.below b2 hz)
      have HO2 := Lib.hid O2
      have HA := Lib.hid (HP2.out w2 A k c w.heap.size rs HTT.out HV.out (by omega) (by omega) HRW.out)
      clear O2 b2
      go_wp2_with fail
      refine HA.out.mono ?_
      rintro e w3 ⟨A3, c3, rfl, O3, b3⟩
      have hz3 : w2.heap.size ≤ w3.heap.size := b3.size
      have HB := Lib.hid (HB.out.trans (b3.mono (by omega)))
      have HTT := Lib.hid (HTT.out.below' b3)
      have HV := Lib.hid (HV.out.below b3 (by omega))
      have HR2 := Lib.hid ((HO2.out.below b3).rd)
      have HR3 := Lib.hid O3.rd
      clear O3 b3 HO2 HA
      go_wp2_with fail
      go_loopw [8] (fun i wr => ∃ j : Nat, j ≤ k ∧ i = .int .i64 j ∧ Below w3.heap.size w3 wr) (fun i _ => k - (intOf i).toNat)
      case atStart => exact ⟨0, Nat.zero_le _, rfl, Below.refl _ _⟩
      case round =>
        obtain ⟨j, hj, rfl, hbq⟩ := hrel
        have j0 : (0 : Int) ≤ (j : Int) := by omega
        have hzq := hbq.size
        by_cases hltj : (j : Int) < (k : Int)
        · have V := HV.out.below hbq (by omega)
          obtain ⟨b, o, hA, hbB, c0, c1, c2, c3, c4, c5, c6, c7, c8, c9⟩ := V.ten j (by omega)
          have R := V.each j (by omega)
          have hok := allok_getD (R := riR) V.rv.rg j
          change ((rs.getD j RI.zero).sc).ok at hok
          have hht := HRW.out j (by omega)
          have hTq := (HTT.out.below' hbq).tab
          generalize l.getD j Ins.zero = x at R
          generalize rs.getD j RI.zero = r at c0 c1 c2 c3 c4 c5 c6 c7 c8 c9 R hht hok
          rw [R.sc] at hok
          obtain ⟨⟨s0, s1, s2, s3, s4, s5, s6, s7⟩, tA, tn, tc, mA, mn, mc⟩ := r
          simp only at c0 c1 c2 c3 c4 c5 c6 c7 c8 c9 hht
          have HBQ := Lib.hid hbq
          have hS : TenS b (o + j * 10) s0 s1 s2 s3 s4 s5 s6 s7 tA mA tn tc mn mc wr wr := ⟨c0, c1, c2, c3, c4, c5, c6, c7, c8, c9, Below.refl _ _⟩
          have H1 := Lib.hid (fun W (g : TenS b (o + j * 10) s0 s1 s2 s3 s4 s5 s6 s7 tA mA tn tc mn mc wr W) => size_any x ⟨⟨s0, s1, s2, s3, s4, s5, s6, s7⟩, tA, tn, tc, mA, mn, mc⟩ W w.heap.size (hTq.below' g.2.2.2.2.2.2.2.2.2.2) (R.below g.2.2.2.2.2.2.2.2.2.2 (by omega)) hok.1.1 hok.1.2 hht.1)
          have H2 := Lib.hid (fun W (g : TenS b (o + j * 10) s0 s1 s2 s3 s4 s5 s6 s7 tA mA tn tc mn mc wr W) => refsize_any x ⟨⟨s0, s1, s2, s3, s4, s5, s6, s7⟩, tA, tn, tc, mA, mn, mc⟩ W w.heap.size (hTq.below' g.2.2.2.2.2.2.2.2.2.2) (R.below g.2.2.2.2.2.2.2.2.2.2 (by omega)) (by have := g.2.2.2.2.2.2.2.2.2.2.size; omega) hok hht.1 hht.2)
          rw [RI.val_eq] at H1 H2
          generalize sizeP x = P at H1 H2
          have hbs : b < wr.heap.size := by omega
          have hPP : ((P : Int) != (P : Int)) = false := by simp
          subst hA
          clear V R hok hht hTq hbq
          go_upto_region 11 with (fail)
          go_cut [58] from 42 to 58 (fun p wx => p = .bool false ∧ Below wr.heap.size wr wx)
          case first =>
            clear c0 c1 c2 c3 c4 c5 c6 c7 c8 c9
            go_region_held3 (fun W => W.cell? ⟨b, o + j * 10, none⟩ = some (.int .i64 s0) ∧ W.cell? ⟨b, o + j * 10 + 1, none⟩ = some (.int .u8 s1) ∧ W.cell? ⟨b, o + j * 10 + 2, none⟩ = some (.int .i64 s2) ∧ W.cell? ⟨b, o + j * 10 + 3, none⟩ = some (.int .u8 s3) ∧ W.cell? ⟨b, o + j * 10 + 4, none⟩ = some (.int .u16 s4) ∧ W.cell? ⟨b, o + j * 10 + 5, none⟩ = some (.int .i64 s5) ∧ W.cell? ⟨b, o + j * 10 + 6, none⟩ = some (.int .i64 s6) ∧ W.cell? ⟨b, o + j * 10 + 7, none⟩ = some (.slice tA tn tc) ∧ W.cell? ⟨b, o + j * 10 + 8, none⟩ = some (.slice mA mn mc) ∧ W.cell? ⟨b, o + j * 10 + 9, none⟩ = some (.int .u16 s7) ∧ Below wr.heap.size wr W)
              (first | exact TenS.keep hS (Below.refl _ _).drew | exact TenS.keep (by assumption) (by assumption))
              (first
                | (go_at_call 7; refine (H1.out _ (by assumption)).mono ?_; rintro e w' ⟨rfl, hb⟩)
                | (go_at_call 8; refine (H2.out _ (by assumption)).mono ?_; rintro e w' ⟨rfl, hb⟩))
            all_goals (go_wp2_with fail; go_meet; rename_i hX; exact ⟨rfl, hX.2.2.2.2.2.2.2.2.2.2⟩)
          case rest =>
            obtain ⟨rfl, bx⟩ := hcut
            have HBX := Lib.hid (HBQ.out.trans (bx.mono hzq))
            clear bx c0 c1 c2 c3 c4 c5 c6 c7 c8 c9 hS H1 H2
            go_wp2_with fail
            go_roundw
            case rel => exact ⟨j + 1, by omega, by go_num, HBX.out⟩
            case measure => simp [intOf]; omega
        · have HBQ := Lib.hid hbq
          have HSM := Lib.hid (same_yes A2 A3 L.length c2 c3 w3.heap.size w3.heap.size L wr (by omega) (HR2.out.below hbq (Nat.le_refl _)) (HR3.out.below hbq (Nat.le_refl _)))
          have HTQ := Lib.hid (HTT.out.below' hbq)
          have HBB := Lib.hid (HB.out.trans (hbq.mono (by omega)))
          have hEE : (E == E) = true := by simp
          clear hbq
          go_wp2_with (first | (go_at_call 9; refine HSM.out.mono ?_; rintro e w5 ⟨rfl, q5, rfl⟩; have HWK := Lib.hid (works_any _ (HTQ.out.drewN q5)); have HB5 := Lib.hid (below_drewN HBB.out q5)) | (go_at_call 4; refine HWK.out.mono ?_; rintro e w6 ⟨rfl, b6⟩; have HB6 := Lib.hid (HB5.out.trans (b6.mono HB5.out.size))))
          go_returns
          exact ⟨rfl, HB6.out⟩
end Go.Proofs.YtolifmpkillglaaGreatDoor

