import Derived.Test.YtolifmpkillglaaDoorJf
import Derived.Test.YtolifmpkillglaaDoorJd
import Derived.Test.YtolifmpkillglaaDoorIv
set_option linter.unusedVariables false
set_option maxRecDepth 100000
namespace Go.Proofs.YtolifmpkillglaaDoor
open Go.RowKit
/-! Put, of what was read. -/
theorem put_step (l : List Int) (hr : rng l) (D : List Ins) (k i f : Nat) (hk : k < D.length) (hf : l.length ≤ i + f) (h : readF l f i = (0, D.drop k)) :
    i < l.length ∧ (insE l i).1 = 0 ∧ D.getD k Ins.zero = (insE l i).2.1 ∧ i + sizeP (insE l i).2.1 = (insE l i).2.2 ∧ (insE l i).2.2 ≤ l.length ∧ (insE l i).2.1.sc.ok ∧ ∃ f', readF l f' (insE l i).2.2 = (0, D.drop (k + 1)) ∧ l.length ≤ (insE l i).2.2 + f' := by
  have hne : D.drop k = D.getD k Ins.zero :: D.drop (k + 1) := by
    rw [List.drop_eq_getElem_cons hk, List.getD_eq_getElem?_getD, List.getElem?_eq_getElem hk]
    rfl
  by_cases hi : i < l.length
  · obtain ⟨f', rfl⟩ : ∃ f', f = f' + 1 := ⟨f - 1, by omega⟩
    obtain ⟨he, M, hM, hc⟩ := readF_cons l f' i _ hi h
    have ok := insE_ok l i hr hi he
    rw [hne] at hc
    obtain ⟨hx, hd⟩ := List.cons.inj hc
    refine ⟨hi, he, hx, ?_, ok.2.2.2.2.1, ok.2.2.2.2.2, f', by rw [hM, hd], by have := ok.2.2.2.1; omega⟩
    obtain ⟨q, cnt, b, b2, h0, hk, h1, hb, hc, h3, hb2, hck, hee⟩ := insE_inv l i hr he
    unfold sizeP
    rw [ok.2.1, if_pos h0, hk, hee]
    show i + (1 + hdS q + (tabC q i b2 cnt).length * rwS q) = i + 1 + hdS q + cnt * rwS q
    rw [tabC_len]
    omega
  · exfalso
    have e : readF l f i = (0, []) := by
      cases f with
      | zero => rfl
      | succ f => show (if i < l.length then _ else _) = _; rw [if_neg hi]
    rw [e, hne] at h
    exact absurd (congrArg Prod.snd h) (by simp)
theorem put_end (l : List Int) (D : List Ins) (k i f : Nat) (hk : D.length ≤ k) (hi : i ≤ l.length) (hf : l.length ≤ i + f) (h : readF l f i = (0, D.drop k)) : i = l.length := by
  by_cases hi2 : i < l.length
  · obtain ⟨f', rfl⟩ : ∃ f', f = f' + 1 := ⟨f - 1, by omega⟩
    obtain ⟨he, M, hM, hc⟩ := readF_cons l f' i _ hi2 h
    rw [List.drop_of_length_le hk] at hc
    cases hc
  · omega
set_option maxHeartbeats 4000000 in
theorem put_any (l : List Int) (hr : rng l) (w : World) (A : Option Addr) (n c B : Nat) (rs : List RI) (T : TE w) (he : (readC l).1 = 0) (hv : IV w B A n rs (readC l).2) (hB : B ≤ w.heap.size) :
    Calls Tryd.prog 16 #[.slice A n c] w fun e w' => ∃ A' c', e = .returned (.tuple #[.slice A' l.length c', .int .i64 0]) ∧ OS w' (Lt w.heap.size) A' l.length c' l ∧ Below w.heap.size w w' := by
  obtain ⟨hl2, hl0, hF, _⟩ := readC_inv l he
  have hrows := hv.rows (readC_rows l hr)
  have hdl := hv.len
  have hDb := readC_len l hr
  have hrc : ReadSaid 5 l (0, (readC l).2) := by
    have e0 : (0, (readC l).2) = readC l := Prod.ext he.symm rfl
    rw [e0]
    exact read_any l
  have HRC := Lib.hid hrc
  clear hrc
  generalize (readC l).2 = D at hv hF HRC hrows hdl hDb
  have HP := Lib.hid (put_step l hr D)
  have HE := Lib.hid (put_end l D)
  have HQ := Lib.hid (put_eq l)
  have HV := Lib.hid hv
  have HF := Lib.hid hF
  have HRW := Lib.hid hrows
  have HT := Lib.hid T
  have HR := Lib.hid hr
  clear hv hF hrows T he hr
  go_enter Tryd.func16, Tryd.ntmps16
  go_wp2_with fail
  go_loopw [4, 11] (fun bs j wr => ∃ (k i f : Nat) (Ab : Option Addr) (cb : Nat), k ≤ n ∧ j = .int .i64 k ∧ bs = .slice Ab i cb ∧ i ≤ l.length ∧ l.length ≤ i + f ∧ readF l f i = (0, D.drop k) ∧ OS wr (Lt w.heap.size) Ab i cb (l.take i) ∧ Below w.heap.size w wr) (fun _ j _ => n - (intOf j).toNat)
  case atStart => exact ⟨0, 0, l.length, none, 0, Nat.zero_le _, rfl, rfl, Nat.zero_le _, by omega, HF.out, OS.nil_, Below.refl _ _⟩
  case round =>
    obtain ⟨k, i, f, Ab, cb, hk, rfl, rfl, hil, hif, hrd, hO, hb⟩ := hrel
    have i0 : (0 : Int) ≤ (k : Int) := by omega
    by_cases hlt : (k : Int) < (n : Int)
    · obtain ⟨hi, hie, hx, hsz, hile, hok, f', hrd', hif'⟩ := HP.out k i f (by omega) hif hrd
      have hpe := HQ.out i HR.out hi hie
      have V := HV.out.below hb hB
      have hz := hb.size
      obtain ⟨b, o, hA, hbB, c0, c1, c2, c3, c4, c5, c6, c7, c8, c9⟩ := V.ten k (by omega)
      have R := V.each k (by omega)
      have hht := HRW.out k (by omega)
      have hbs : b < wr.heap.size := by omega
      rw [hx] at R
      generalize (insE l i).2.2 = i2 at hsz hile hrd' hif' hpe
      generalize (insE l i).2.1 = x at hsz hok hpe R hx
      generalize rs.getD k RI.zero = r at c0 c1 c2 c3 c4 c5 c6 c7 c8 c9 R hht
      obtain ⟨⟨s0, s1, s2, s3, s4, s5, s6, s7⟩, tA, tn, tc, mA, mn, mc⟩ := r
      simp only at c0 c1 c2 c3 c4 c5 c6 c7 c8 c9 hht
      have HB := Lib.hid hb
      have hsc := R.sc
      have hs1 : x.sc.op = s1 := by rw [← hsc]
      have hopr := hok.1
      have HSZ := Lib.hid (fun W (T : Tab W) (h : Below w.heap.size wr W) => size_any x ⟨⟨s0, s1, s2, s3, s4, s5, s6, s7⟩, tA, tn, tc, mA, mn, mc⟩ W B T (R.below h hB) (by omega) (by omega) hht.1)
      have HAP := Lib.hid (fun W (T : Tab W) (h : Below w.heap.size wr W) (O : OS W (Lt w.heap.size) Ab i cb (l.take i)) (hw : w.heap.size ≤ W.heap.size) => appI_any (Lt w.heap.size) Ab i cb B (l.take i) ⟨⟨s0, s1, s2, s3, s4, s5, s6, s7⟩, tA, tn, tc, mA, mn, mc⟩ x W T O (fun q hq => Nat.lt_of_lt_of_le hq hw) (R.below h hB) hok (fun q hq => Nat.lt_of_lt_of_le hq hB) (by omega) hht.1 (by omega))
      rw [RI.val_eq] at HSZ HAP
      have hO1 := hO.alloc (.cells #[.int .i64 s0, .int .u8 s1, .int .i64 s2, .int .u8 s3, .int .u16 s4, .int .i64 s5, .int .i64 s6, .slice tA tn tc, .slice mA mn mc, .int .u16 s7] 40)
      have b1 := below_new wr (.cells #[.int .i64 s0, .int .u8 s1, .int .i64 s2, .int .u8 s3, .int .u16 s4, .int .i64 s5, .int .i64 s6, .slice tA tn tc, .slice mA mn mc, .int .u16 s7] 40)
      have hz1 : (wr.alloc (.cells #[.int .i64 s0, .int .u8 s1, .int .i64 s2, .int .u8 s3, .int .u16 s4, .int .i64 s5, .int .i64 s6, .slice tA tn tc, .slice mA mn mc, .int .u16 s7] 40)).heap.size = wr.heap.size + 1 := by simp
      have HX := Lib.hid (Blk.new wr #[.int .i64 s0, .int .u8 s1, .int .i64 s2, .int .u8 s3, .int .u16 s4, .int .i64 s5, .int .i64 s6, .slice tA tn tc, .slice mA mn mc, .int .u16 s7] 40)
      subst hA
      obtain ⟨P, hP⟩ : ∃ P, sizeP x = P := ⟨_, rfl⟩
      rw [hP] at HSZ hsz
      have hsub : IntKind.i64.wrap ((2000 : Int) - (i : Int)) = 2000 - (i : Int) := IntWalk.i64_in _ (by omega)
      have hgt : decide ((P : Int) > 2000 - (i : Int)) = false := by rw [decide_eq_false_iff_not]; omega
      have hgt2 : ¬ (2000 - (i : Int)) < (P : Int) := by omega
      clear V hb R hht hO hx hsc hrd hok
      go_upto_region 5 with (fail)
      clear c0 c1 c2 c3 c4 c5 c6 c7 c8 c9
      have HB1 := Lib.hid (b1.mono hz)
      have HO := Lib.hid hO1
      have HRD := Lib.hid hrd'
      have HPE := Lib.hid hpe
      clear b1 hO1 hrd' hpe
      generalize wr.alloc (.cells #[.int .i64 s0, .int .u8 s1, .int .i64 s2, .int .u8 s3, .int .u16 s4, .int .i64 s5, .int .i64 s6, .slice tA tn tc, .slice mA mn mc, .int .u16 s7] 40) = w1 at HX HO HB1 hz1 ⊢
      have HTT := Lib.hid (HT.out.below' (HB.out.trans HB1.out))
      go_wp2_with ((with_reducible refine wpList_ldI rfl (.tmp 6) rfl HX.out ?_ ?_ ?_); exact rfl; exact rfl)
      refine (HSZ.out _ HTT.out.tab HB1.out).mono ?_
      rintro e w2 ⟨rfl, b2⟩
      have hz2 := b2.size
      have HX := Lib.hid (HX.out.below b2)
      have HB1 := Lib.hid (HB1.out.trans (b2.mono (by omega)))
      have HO := Lib.hid (HO.out.below b2)
      have HTT := Lib.hid (HT.out.below' (HB.out.trans HB1.out))
      clear b2
      go_wp2_with ((with_reducible refine wpList_ldI rfl (.tmp 6) rfl HX.out ?_ ?_ ?_); exact rfl; exact rfl)
      refine (HAP.out _ HTT.out.tab HB1.out HO.out (by omega)).mono ?_
      rintro e w3 ⟨A3, n3, c3, rfl, O3, k3⟩
      rw [HPE.out] at O3
      have hn3 : n3 = i2 := by rw [← O3.len, List.length_take]; omega
      subst hn3
      have HB := Lib.hid (HB.out.trans (HB1.out.trans k3.below'))
      have HO := Lib.hid O3
      clear O3 k3 HB1
      go_wp2_with fail
      go_roundw
      case rel => exact ⟨k + 1, _, f', _, _, by omega, by go_num, rfl, by omega, hif', HRD.out, HO.out, HB.out⟩
      case measure => simp [intOf]; omega
    · obtain rfl : k = n := by omega
      have hie := HE.out k i f (by omega) hil hif hrd
      subst hie
      rw [List.take_length] at hO
      have hz := hb.size
      have HB := Lib.hid hb
      have HO := Lib.hid hO
      have HTT := Lib.hid (HT.out.below' hb)
      have HAA := Lib.hid (HRC.out wr wr.heap.size Ab l.length cb HTT.out hO.rd hO.le (by omega) (Nat.le_refl _))
      clear hO hb hrd
      go_wp2_with fail
      refine HAA.out.mono ?_
      rintro e w5 ⟨A5, c5, rs5, rfl, N5, b5⟩
      have hz5 := b5.size
      have HB := Lib.hid (HB.out.trans (b5.mono hz))
      have HO := Lib.hid (HO.out.below b5)
      have HEQ := Lib.hid (eqf_eq D w5 A A5 _ c c5 B _ rs rs5 (HV.out.below HB.out hB) (hdl ▸ N5.iv) (by omega) (Nat.le_refl _) (by omega) HRW.out)
      clear N5 b5
      go_wp2_with fail
      refine HEQ.out.mono ?_
      rintro e w6 ⟨rfl, b6⟩
      have HB := Lib.hid (HB.out.trans (b6.mono (by omega)))
      have HO := Lib.hid (HO.out.below b6)
      clear b6 HEQ
      go_wp2_with fail
      go_returns
      exact ⟨_, _, rfl, HO.out, HB.out⟩
end Go.Proofs.YtolifmpkillglaaDoor
