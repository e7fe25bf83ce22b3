import Derived.Test.YtolifmpkillglaaGreatDoorIf
set_option linter.unusedVariables false
set_option maxRecDepth 100000
namespace Go.Proofs.YtolifmpkillglaaGreatDoor
open Go.RowKit
/-! One instruction of the code's own reading: the walk. -/
theorem Rd.kp2 {w w' : World} {B g h n : Nat} {A : Option Addr} {l : List Int} (hr : Rd w B A n l) (k : Kp (Not2 g h) w w') (hg : B ≤ g) (hh : B ≤ h) : Rd w' B A n l := hr.keep fun p hp => k.cell (show p.block ≠ g ∧ p.block ≠ h from ⟨by omega, by omega⟩)
theorem Rd.allc {w : World} {B n : Nat} {A : Option Addr} {l : List Int} (h : Rd w B A n l) (hB : B ≤ w.heap.size) (o : Obj) : Rd (w.alloc o) B A n l := h.below ((Below.refl _ _).alloc (Nat.le_refl _) o) hB
set_option maxHeartbeats 8000000 in
theorem readI_any (l : List Int) (i : Nat) : RdISaid l i := by
  intro w B A n c T hr hn hc hB hi
  have hl := hr.len
  have hrg := hr.rg
  have ho := rng_getD hrg i
  have hT3 := T.2.2
  have i0 : (0 : Int) ≤ (i : Int) := by omega
  have i1 : (i : Int) < (n : Int) := by omega
  have HO := Lib.hid (of_any (l.getD i 0) ho.1 ho.2)
  obtain ⟨on, hon⟩ : ∃ on : Nat, l.getD i 0 = on := ⟨(l.getD i 0).toNat, by omega⟩
  have hon2 : on < 256 := by omega
  obtain ⟨k, hk⟩ : ∃ k, kO (l.getD i 0) = k := ⟨_, rfl⟩
  have HNO := Lib.hid (insE_no l i)
  have HS1 := Lib.hid (insE_s1 l i)
  have HNEG := Lib.hid (fun b h => insE_neg l i k b h hk)
  have HS2 := Lib.hid (fun b cnt h => insE_s2 l i k b cnt h hk)
  have HEND := Lib.hid (fun b b2 cnt h => insE_end l i k b b2 cnt h hk)
  have HOK := Lib.hid (ofC_ok on hon2)
  have HON := Lib.hid (ofC_no on hon2)
  rw [hk] at HS1
  rw [← hon] at HOK HON
  rw [hk] at HOK
  rcases hof : ofC (l.getD i 0) with ⟨⟨x0, x1, x2, x3, x4, x5, x6⟩, er⟩
  rw [hof] at HO HNO HS1 HNEG HS2 HEND HOK HON
  generalize hE : insE l i = E at HNO HS1 HNEG HS2 HEND ⊢
  have T1 := T.alloc (.cells #[.int .i64 0, .int .u8 0, .int .i64 0, .int .u8 0, .int .u16 0, .int .i64 0, .int .i64 0, .slice none 0 0, .slice none 0 0, .int .u16 0] 28)
  have R1 := hr.allc hB (.cells #[.int .i64 0, .int .u8 0, .int .i64 0, .int .u8 0, .int .u16 0, .int .i64 0, .int .i64 0, .slice none 0 0, .slice none 0 0, .int .u16 0] 28)
  obtain ⟨b0, o0, hA, hb0, g0⟩ := R1.2.2 (by omega)
  have g1 := g0 i hi
  have HT := Lib.hid T1
  have HR := Lib.hid R1
  have HY := Lib.hid (Blk.new w #[.int .i64 0, .int .u8 0, .int .i64 0, .int .u8 0, .int .u16 0, .int .i64 0, .int .i64 0, .slice none 0 0, .slice none 0 0, .int .u16 0] 28)
  have HK := Lib.hid (below_new w (.cells #[.int .i64 0, .int .u8 0, .int .i64 0, .int .u8 0, .int .u16 0, .int .i64 0, .int .i64 0, .slice none 0 0, .slice none 0 0, .int .u16 0] 28))
  have hsz : w.heap.size < (w.alloc (.cells #[.int .i64 0, .int .u8 0, .int .i64 0, .int .u8 0, .int .u16 0, .int .i64 0, .int .i64 0, .slice none 0 0, .slice none 0 0, .int .u16 0] 28)).heap.size := by simp
  clear T hr g0 hof hk T1 R1 hE
  generalize l.getD i 0 = o at HO HOK HON HEND ho hon g1
  subst hon
  unfold OfSaid at HO
  simp only [Inf.val] at HO
  subst hA
  go_enter Tryz.func40, Tryz.ntmps40
  go_upto_region 1 with (fail)
  generalize w.alloc (.cells #[.int .i64 0, .int .u8 0, .int .i64 0, .int .u8 0, .int .u16 0, .int .i64 0, .int .i64 0, .slice none 0 0, .slice none 0 0, .int .u16 0] 28) = w1 at HT HR HY HK g1 hsz ⊢
  go_wp2_with fail
  refine (HO.out _ HT.out).mono ?_
  rintro e w2 ⟨rfl, b2⟩
  have hz2 := b2.size
  have HT := Lib.hid ((HT.out.below' b2).alloc (.cells #[.int .u8 x0, .string ⟨x1.toArray⟩, .int .u8 x2, .int .i64 x3, .int .i64 x4, .bool x5, .bool x6] 46))
  have HR := Lib.hid ((HR.out.below b2 (by omega)).allc (by omega) (.cells #[.int .u8 x0, .string ⟨x1.toArray⟩, .int .u8 x2, .int .i64 x3, .int .i64 x4, .bool x5, .bool x6] 46))
  have HY := Lib.hid ((HY.out.below b2).alloc (.cells #[.int .u8 x0, .string ⟨x1.toArray⟩, .int .u8 x2, .int .i64 x3, .int .i64 x4, .bool x5, .bool x6] 46))
  have HK := Lib.hid ((HK.out.trans (b2.mono (by omega))).alloc (by omega) (.cells #[.int .u8 x0, .string ⟨x1.toArray⟩, .int .u8 x2, .int .i64 x3, .int .i64 x4, .bool x5, .bool x6] 46))
  have HI := Lib.hid (Blk.new w2 #[.int .u8 x0, .string ⟨x1.toArray⟩, .int .u8 x2, .int .i64 x3, .int .i64 x4, .bool x5, .bool x6] 46)
  have hg : w.heap.size < w2.heap.size := by omega
  have hg2 : (w2.alloc (.cells #[.int .u8 x0, .string ⟨x1.toArray⟩, .int .u8 x2, .int .i64 x3, .int .i64 x4, .bool x5, .bool x6] 46)).heap.size = w2.heap.size + 1 := by simp
  clear b2 g1 hz2 hsz HO
  go_upto_region 2 with (fail)
  generalize w2.alloc (.cells #[.int .u8 x0, .string ⟨x1.toArray⟩, .int .u8 x2, .int .i64 x3, .int .i64 x4, .bool x5, .bool x6] 46) = w3 at HT HR HY HK HI hg2 ⊢
  by_cases her : er = 0
  · subst her
    obtain ⟨hx0, hx2, hk12, hjp⟩ := HOK.out rfl
    subst hx0 hx2
    clear HOK HON HNO hjp
    have q0 : w3.cell? ⟨w2.heap.size, 0, none⟩ = some (.int .u8 on) := HI.out.cell 0
    go_upto_region 5 with ((with_reducible refine wpList_stI (cells := #[.int .i64 i, .int .u8 on, .int .i64 0, .int .u8 0, .int .u16 0, .int .i64 0, .int .i64 0, .slice none 0 0, .slice none 0 0, .int .u16 0]) rfl (.tmp 4) (.tmp 31) rfl HY.out ?_ ?_ ?_ ?_ ?_ ?_); exact rfl; exact rfl; exact rfl; exact rfl; exact rfl; intro W X3 K3)
    have HT := Lib.hid (HT.out.kp K3 (fun q hq => show q ≠ w.heap.size by omega))
    have HR := Lib.hid (HR.out.kpn K3 hB)
    have HI := Lib.hid (HI.out.kp K3 (show w2.heap.size ≠ w.heap.size by omega))
    have HK := Lib.hid (HK.out.trans (K3.below (fun q hq => show q ≠ w.heap.size by omega)))
    have HY := Lib.hid X3
    have hz4 := K3.size
    clear q0 K3 X3
    obtain ⟨w4, hw4⟩ : ∃ W', W' = W := ⟨_, rfl⟩
    subst hw4
    have q2 : w4.cell? ⟨w2.heap.size, 2, none⟩ = some (.int .u8 k) := HI.out.cell 2
    go_wp2_with fail
    refine (hd_any k hk12 _).mono ?_
    rintro e w5 ⟨rfl, hw⟩
    obtain rfl := hw.symm
    go_wp2_with fail
    by_cases hs1 : n < i + 1 + hdS k
    · refine (part_short _ n c ((i : Int) + 1) (hdS k) w4 hn (by omega) (by omega) (by omega) (by omega) (by omega)).mono ?_
      rintro e w5 ⟨rfl, hw⟩
      obtain rfl := hw
      go_wp2_with ((with_reducible refine wpList_stI (cells := #[.int .i64 0, .int .u8 0, .int .i64 0, .int .u8 0, .int .u16 0, .int .i64 0, .int .i64 0, .slice none 0 0, .slice none 0 0, .int .u16 0]) rfl (.tmp 4) (.tmp 45) rfl HY.out ?_ ?_ ?_ ?_ ?_ ?_); exact rfl; exact rfl; exact rfl; exact rfl; exact rfl; intro W X3 K3)
      have B3 : Below w.heap.size w W := HK.out.trans (K3.below (fun q hq => show q ≠ w.heap.size by omega))
      have he := HS1.out trivial (by omega)
      subst he
      exact bodyPost_ret (v := .tuple #[.agg #[.int .i64 0, .int .u8 0, .int .i64 0, .int .u8 0, .int .u16 0, .int .i64 0, .int .i64 0, .slice none 0 0, .slice none 0 0, .int .u16 0], .int .i64 0, .iface 31 (.int .i64 4)]) (res39 _ w.heap.size _ W _ _ X3 rfl rfl rfl rfl) rfl ⟨_, RI.zero, rfl, EV.short, InsN.zero _ _, B3⟩
    · have P := part_ok _ n c B (i + 1) (hdS k) l w4 hn (by omega) (by omega) HR.out (by omega) (by omega)
      rw [show ((i + 1 : Nat) : Int) = (i : Int) + 1 by omega] at P
      refine P.mono ?_
      clear P
      rintro e w5 ⟨A1, c1, rfl, ob, b5⟩
      obtain ⟨b, hb⟩ : ∃ b, (l.drop (i + 1)).take (hdS k) = b := ⟨_, rfl⟩
      rw [hb] at ob
      have HBB := Lib.hid hb
      have hbl : b.length = hdS k := ob.rd.len
      have hbr : rng b := ob.rd.rg
      have hz5 := b5.size
      have hA1 : ∀ a, A1 = some a → w4.heap.size ≤ a.block ∧ a.block < w5.heap.size := by
        rintro ⟨p, off, sp⟩ rfl
        have := ob.os (S := Lt w4.heap.size) (fun q hq => hq)
        have h2 := OV.out this p off sp rfl
        exact ⟨Nat.le_of_not_lt h2.1, h2.2⟩
      have HT := Lib.hid ((HT.out.below' b5).alloc (.cells #[.slice A1 (hdS k) c1, .int .i64 i] 101))
      have HR := Lib.hid ((HR.out.below b5 (by omega)).allc (by omega) (.cells #[.slice A1 (hdS k) c1, .int .i64 i] 101))
      have HY := Lib.hid ((HY.out.below b5).alloc (.cells #[.slice A1 (hdS k) c1, .int .i64 i] 101))
      have HI := Lib.hid ((HI.out.below b5).alloc (.cells #[.slice A1 (hdS k) c1, .int .i64 i] 101))
      have HK := Lib.hid ((HK.out.trans (b5.mono (by omega))).alloc (by omega) (.cells #[.slice A1 (hdS k) c1, .int .i64 i] 101))
      have HX := Lib.hid (Blk.new w5 #[.slice A1 (hdS k) c1, .int .i64 i] 101)
      have HRB := Lib.hid ((ob.rd).allc (Nat.le_refl _) (.cells #[.slice A1 (hdS k) c1, .int .i64 i] 101))
      have hle1 : hdS k ≤ c1 := OS.le (ob.os (S := Lt w4.heap.size) (fun q hq => hq))
      have hg6 : (w5.alloc (.cells #[.slice A1 (hdS k) c1, .int .i64 i] 101)).heap.size = w5.heap.size + 1 := by simp
      clear b5 ob hb q2
      go_upto_region 11 with (fail)
      generalize w5.alloc (.cells #[.slice A1 (hdS k) c1, .int .i64 i] 101) = w6 at HT HR HY HI HK HX HRB hg6 ⊢
      have hST : ¬ Old w6.heap.size w5.heap.size w.heap.size w5.heap.size := fun h => h.2.1 rfl
      have hSH : ¬ Old w6.heap.size w5.heap.size w.heap.size w.heap.size := fun h => h.2.2 rfl
      have HTL : Hid (TL w6 w5.heap.size (Old w6.heap.size w5.heap.size w.heap.size) b i) := Lib.hid ⟨A1, hdS k, c1, _, HX.out, HRB.out, fun a ha => by have := hA1 a ha; exact ⟨by omega, by omega, by omega⟩, hle1, by omega, hST⟩
      have hne : w5.heap.size ≠ w.heap.size := by omega
      have q2 : w6.cell? ⟨w2.heap.size, 2, none⟩ = some (.int .u8 k) := HI.out.cell 2
      clear HX HRB hA1 hle1
      go_wp2_with fail
      refine (fh_any k hk12 w5.heap.size w.heap.size _ b i ⟨scI i on, none, 0, 0, none, 0, 0⟩ w6 hbl HTL.out HY.out hne hSH i0 (by omega)).mono ?_
      rintro e w7 ⟨rfl, ⟨b', X7⟩, Y7, K7⟩
      have hz7 := K7.size
      have HT := Lib.hid (HT.out.kp K7 (fun q hq => ⟨by omega, by omega⟩))
      have HR := Lib.hid (HR.out.kp2 K7 (by omega) hB)
      have HI := Lib.hid (HI.out.kp K7 ⟨by omega, by omega⟩)
      have HK := Lib.hid (HK.out.trans (K7.below (fun q hq => ⟨by omega, by omega⟩)))
      have HY := Lib.hid Y7
      have HTL := Lib.hid X7
      clear X7 Y7 K7 q2
      obtain ⟨rr, hrr⟩ : ∃ x, headR k b = x := ⟨_, rfl⟩
      rw [hrr]
      have hbd := headR_bd k b hbr
      rw [hrr] at hbd
      have HRR := Lib.hid hrr
      clear hrr
      by_cases hneg : rr < 0
      · have HY : Hid (Blk w7 w.heap.size _ 28) := HY
        go_wp2_with ((with_reducible refine wpList_stI (cells := #[.int .i64 0, .int .u8 0, .int .i64 0, .int .u8 0, .int .u16 0, .int .i64 0, .int .i64 0, .slice none 0 0, .slice none 0 0, .int .u16 0]) rfl (.tmp 4) (.tmp 60) rfl HY.out ?_ ?_ ?_ ?_ ?_ ?_); exact rfl; exact rfl; exact rfl; exact rfl; exact rfl; intro W X3 K3)
        have B3 : Below w.heap.size w W := HK.out.trans (K3.below (fun q hq => show q ≠ w.heap.size by omega))
        have he := HNEG.out b trivial (by omega) HBB.out (by rw [HRR.out]; exact hneg)
        subst he
        exact bodyPost_ret (v := .tuple #[.agg #[.int .i64 0, .int .u8 0, .int .i64 0, .int .u8 0, .int .u16 0, .int .i64 0, .int .i64 0, .slice none 0 0, .slice none 0 0, .int .u16 0], .int .i64 0, .iface 77 (.agg #[.int .i64 i, .string ⟨#[97, 32, 104, 105, 103, 104, 101, 115, 116, 32, 98, 101, 108, 111, 119, 32, 116, 104, 101, 32, 108, 111, 119, 101, 115, 116]⟩])]) (res39 _ w.heap.size _ W _ _ X3 rfl rfl rfl rfl) rfl ⟨_, RI.zero, rfl, EV.mis _ _, InsN.zero _ _, B3⟩
      · obtain ⟨cnt, hcnt⟩ : ∃ cnt : Nat, rr = cnt := ⟨rr.toNat, by omega⟩
        subst hcnt
        obtain ⟨M, hM⟩ : ∃ M : Nat, cnt * rwS k = M := ⟨_, rfl⟩
        have hMI : ((cnt : Int) * (rwS k : Int)) = (M : Int) := by rw [← hM]; exact (Int.natCast_mul _ _).symm
        have hM4 : M ≤ 4 * cnt := by
          have h4 : rwS k ≤ 4 := by unfold rwS; split <;> omega
          rw [← hM, Nat.mul_comm]
          exact Nat.mul_le_mul_right _ h4
        have HM := Lib.hid hM
        clear hM
        generalize hrs : rwS k = rs at HM hMI
        have HRS := Lib.hid hrs
        have HRW := Lib.hid (fun W => rw_any k hk12 W)
        rw [hrs] at HRW
        clear hrs
        have HMW : Hid (wrap64 (M : Int) = (M : Int)) := Lib.hid (by unfold wrap64; omega)
        have q2 : w7.cell? ⟨w2.heap.size, 2, none⟩ = some (.int .u8 k) := HI.out.cell 2
        go_upto_region 14 with (fail)
        go_wp2_with fail
        refine (HRW.out _).mono ?_
        rintro e w8 ⟨rfl, hw⟩
        obtain rfl := hw.symm
        go_wp2_with fail
        clear hMI
        by_cases hs2 : n < i + 1 + hdS k + M
        · refine (part_short _ n c ((i : Int) + 1 + (hdS k : Int)) M w7 hn (by omega) (by omega) (by omega) (by omega) (by omega)).mono ?_
          rintro e w8 ⟨rfl, hw⟩
          obtain rfl := hw
          have HY : Hid (Blk w7 w.heap.size _ 28) := HY
          go_wp2_with ((with_reducible refine wpList_stI (cells := #[.int .i64 0, .int .u8 0, .int .i64 0, .int .u8 0, .int .u16 0, .int .i64 0, .int .i64 0, .slice none 0 0, .slice none 0 0, .int .u16 0]) rfl (.tmp 4) (.tmp 77) rfl HY.out ?_ ?_ ?_ ?_ ?_ ?_); exact rfl; exact rfl; exact rfl; exact rfl; exact rfl; intro W X3 K3)
          have B3 : Below w.heap.size w W := HK.out.trans (K3.below (fun q hq => show q ≠ w.heap.size by omega))
          have he := HS2.out b cnt trivial (by omega) HBB.out HRR.out (by rw [HRS.out, HM.out]; omega)
          subst he
          exact bodyPost_ret (v := .tuple #[.agg #[.int .i64 0, .int .u8 0, .int .i64 0, .int .u8 0, .int .u16 0, .int .i64 0, .int .i64 0, .slice none 0 0, .slice none 0 0, .int .u16 0], .int .i64 0, .iface 31 (.int .i64 4)]) (res39 _ w.heap.size _ W _ _ X3 rfl rfl rfl rfl) rfl ⟨_, RI.zero, rfl, EV.short, InsN.zero _ _, B3⟩
        · have P := part_ok _ n c B (i + 1 + hdS k) M l w7 hn (by omega) (by omega) HR.out (by omega) (by omega)
          rw [show ((i + 1 + hdS k : Nat) : Int) = (i : Int) + 1 + (hdS k : Int) by omega] at P
          refine P.mono ?_
          clear P q2
          rintro e w8 ⟨A2, c2, rfl, ob, b8⟩
          obtain ⟨bb, hbb⟩ : ∃ b, (l.drop (i + 1 + hdS k)).take M = b := ⟨_, rfl⟩
          rw [hbb] at ob
          have HBB2 := Lib.hid hbb
          have hbbl : bb.length = M := ob.rd.len
          have hz8 := b8.size
          have hA2 : ∀ a, A2 = some a → w7.heap.size ≤ a.block ∧ a.block < w8.heap.size := by
            rintro ⟨p, off, sp⟩ rfl
            have := ob.os (S := Lt w7.heap.size) (fun q hq => hq)
            have h2 := OV.out this p off sp rfl
            exact ⟨Nat.le_of_not_lt h2.1, h2.2⟩
          have HI := Lib.hid (HI.out.below b8)
          have HY := Lib.hid (Blk.below HY.out b8)
          have HK := Lib.hid (HK.out.trans (b8.mono (by omega)))
          obtain ⟨A9, n9, c9, B9, X8, _⟩ := HTL.out.below b8
          have t0 : w8.cell? ⟨w5.heap.size, 0, none⟩ = some _ := X8.cell 0
          have t1 : w8.cell? ⟨w5.heap.size, 1, none⟩ = some _ := X8.cell 1
          have tf0 := X8.froz 0
          have tf1 := X8.froz 1
          have hle2 : M ≤ c2 := OS.le (ob.os (S := Lt w7.heap.size) (fun q hq => hq))
          have HRB := Lib.hid ob.rd
          have HX8 := Lib.hid X8
          clear ob b8 hbb X8 HTL HT HR
          go_upto_region 19 with (fail)
          have k9 : Kp (Not1 w5.heap.size) w8 ((w8.setCell ⟨w5.heap.size, 0, none⟩ (.slice A2 M c2)).setCell ⟨w5.heap.size, 1, none⟩ (.int .i64 i)) := ((Kp.refl _ _).setCell (fun h => h rfl) _).setCell (fun h => h rfl) _
          have HX9 : Hid (Blk ((w8.setCell ⟨w5.heap.size, 0, none⟩ (.slice A2 M c2)).setCell ⟨w5.heap.size, 1, none⟩ (.int .i64 i)) w5.heap.size #[.slice A2 M c2, .int .i64 i] 101) := by
            have := (HX8.out.set 0 (.slice A2 M c2)).set 1 (.int .i64 i)
            exact Lib.hid (by simpa using this)
          have HI := Lib.hid (HI.out.kp k9 (show w2.heap.size ≠ w5.heap.size by omega))
          have HY := Lib.hid (Blk.kp HY.out k9 (show w.heap.size ≠ w5.heap.size by omega))
          have HK := Lib.hid (HK.out.trans (k9.below (fun q hq => show q ≠ w5.heap.size by omega)))
          have HRB := Lib.hid (HRB.out.keepb (fun p off e hb => k9.block p (show p ≠ w5.heap.size from by have h3 : w7.heap.size ≤ p ∧ p < w8.heap.size := hA2 _ e; omega)))
          have hz9 := k9.size
          clear t0 t1 tf0 tf1 HX8
          generalize (w8.setCell ⟨w5.heap.size, 0, none⟩ (.slice A2 M c2)).setCell ⟨w5.heap.size, 1, none⟩ (.int .i64 i) = w9 at HX9 HI HY HK HRB hz9 ⊢
          clear k9
          have hST9 : ¬ Old w9.heap.size w5.heap.size w.heap.size w5.heap.size := fun h => h.2.1 rfl
          have hSH9 : ¬ Old w9.heap.size w5.heap.size w.heap.size w.heap.size := fun h => h.2.2 rfl
          have HTL : Hid (TL w9 w5.heap.size (Old w9.heap.size w5.heap.size w.heap.size) bb i) := Lib.hid ⟨A2, M, c2, _, HX9.out, HRB.out, fun a ha => by have := hA2 a ha; exact ⟨by omega, by omega, by omega⟩, hle2, by omega, hST9⟩
          have q2 : w9.cell? ⟨w2.heap.size, 2, none⟩ = some (.int .u8 k) := HI.out.cell 2
          have hEE := HEND.out b bb cnt trivial (by omega) HBB.out HRR.out (by rw [HRS.out, HM.out]; omega) (by rw [HRS.out, HM.out]; exact HBB2.out)
          have hmn : (matC k bb cnt).length ≤ cnt := by
            unfold matC
            split <;> simp
          have hRS : cnt * rwS k ≤ bb.length := by rw [HRS.out, HM.out]; omega
          clear HX9 HRB hA2 hle2
          go_wp2_with fail
          refine (rows_any k cnt hk12 i bb b HRR.out hbr i0 (by omega) hRS w5.heap.size w.heap.size _ ⟨headSc k i b (scI i on), none, 0, 0, none, 0, 0⟩ w9 HTL.out HY.out hne hSH9 (fun q hq => hq.1) ⟨rfl, rfl, rfl⟩ ⟨rfl, rfl, rfl⟩).mono ?_
          rintro e w10 ⟨A3, c3, A4, c4, rfl, Y10, O10, P10, K10⟩
          have hz10 := K10.size
          have HI := Lib.hid (HI.out.kp K10 ⟨by omega, by omega, by omega⟩)
          have HK := Lib.hid (HK.out.trans (K10.below (fun q hq => ⟨by omega, by omega, by omega⟩)))
          clear K10 q2 HTL hbbl hRS
          obtain ⟨nx, hnx⟩ : ∃ nx : Nat, i + 1 + hdS k + cnt * rwS k = nx := ⟨_, rfl⟩
          rw [hnx] at hEE
          have hnx2 : (i : Int) + 1 + (hdS k : Int) + (M : Int) = (nx : Int) := by rw [← hnx, HRS.out, HM.out]; omega
          have HNX := Lib.hid hnx2
          clear hnx hnx2
          generalize headSc k i b (scI i on) = s at hEE Y10
          generalize tabC k i bb cnt = TT at hEE Y10 O10
          generalize matC k bb cnt = MM at hEE Y10 P10 hmn
          obtain ⟨s0, s1, s2, s3, s4, s5, s6, s7⟩ := s
          have HY := Lib.hid (show Blk w10 w.heap.size #[.int .i64 s0, .int .u8 s1, .int .i64 s2, .int .u8 s3, .int .u16 s4, .int .i64 s5, .int .i64 s6, .slice A3 TT.length c3, .slice A4 MM.length c4, .int .u16 s7] 28 from Y10)
          have HO3 := Lib.hid O10
          have HP3 := Lib.hid P10
          have HEE := Lib.hid hEE
          clear Y10 O10 P10 hEE
          have q2 : w10.cell? ⟨w2.heap.size, 2, none⟩ = some (.int .u8 k) := HI.out.cell 2
          have hdum : True := trivial
          go_wp2_with ((with_reducible refine wpList_ldI rfl (.tmp 4) rfl HY.out ?_ ?_ ?_); exact rfl; exact rfl)
          refine (chk_any k hk12 ⟨⟨s0, s1, s2, s3, s4, s5, s6, s7⟩, A3, TT.length, c3, A4, MM.length, c4⟩ MM w10 w10.heap.size (HP3.out.rv) (Nat.le_refl _) (by show MM.length ≤ _; omega)).mono ?_
          rintro e w11 ⟨v, rfl, ev, b11⟩
          have HY := Lib.hid (HY.out.below b11)
          have HK := Lib.hid (HK.out.trans (b11.mono (by omega)))
          have HO3 := Lib.hid (HO3.out.below b11)
          have HP3 := Lib.hid (HP3.out.below b11)
          clear hdum
          clear b11 q2
          by_cases hck : chk k s2 s5 MM = true
          · have ev : EV v (eOf (chk k s2 s5 MM)) := ev
            rw [hck] at ev
            have hv : v = .nilIface := by
              rcases ev with ⟨_, h⟩ | ⟨h, _⟩ | ⟨h, _⟩
              · exact h
              · exact absurd h (by decide)
              · exact absurd h (by decide)
            subst hv
            have hEE := HEE.out
            rw [if_pos hck] at hEE
            have HEE := Lib.hid hEE
            clear hEE ev hck
            go_wp2_with (first | ((with_reducible refine wpList_ldI rfl (.tmp 4) rfl HY.out ?_ ?_ ?_); exact rfl; exact rfl) | ((with_reducible refine wpList_stI (cells := #[.int .i64 s0, .int .u8 s1, .int .i64 s2, .int .u8 s3, .int .u16 s4, .int .i64 s5, .int .i64 s6, .slice A3 TT.length c3, .slice A4 MM.length c4, .int .u16 s7]) rfl (.tmp 4) (.tmp 99) rfl HY.out ?_ ?_ ?_ ?_ ?_ ?_); exact rfl; exact rfl; exact rfl; exact rfl; exact rfl; intro W X3 K3))
            have B3 : Below w.heap.size w W := HK.out.trans (K3.below (fun q hq => show q ≠ w.heap.size by omega))
            have he := HEE.out
            subst he
            exact bodyPost_ret (v := .tuple #[.agg #[.int .i64 s0, .int .u8 s1, .int .i64 s2, .int .u8 s3, .int .u16 s4, .int .i64 s5, .int .i64 s6, .slice A3 TT.length c3, .slice A4 MM.length c4, .int .u16 s7], .int .i64 ((i : Int) + 1 + (hdS k : Int) + (M : Int)), .nilIface]) (res39 _ w.heap.size _ W _ _ X3 rfl rfl rfl rfl) rfl ⟨_, ⟨⟨s0, s1, s2, s3, s4, s5, s6, s7⟩, A3, TT.length, c3, A4, MM.length, c4⟩, by rw [HNX.out]; rfl, EV.ok, ⟨rfl, (HO3.out.keep (fun q hq _ _ => K3.block q (show q ≠ w.heap.size from fun e => hq (show q < w9.heap.size by omega)))).less (fun q hq => show q < w9.heap.size by have : q < w.heap.size := hq; omega), (HP3.out.keep (fun q hq _ _ => K3.block q (show q ≠ w.heap.size from fun e => hq (show q < w9.heap.size by omega)))).less (fun q hq => show q < w9.heap.size by have : q < w.heap.size := hq; omega)⟩, B3⟩
          · have ev : EV v (eOf (chk k s2 s5 MM)) := ev
            rw [Bool.not_eq_true] at hck
            rw [hck] at ev
            obtain ⟨f9, why9, rfl⟩ : ∃ f9 why9, v = misV f9 why9 := by
              rcases ev with ⟨h, _⟩ | ⟨_, h⟩ | ⟨h, _⟩
              · exact absurd h (by decide)
              · exact h
              · exact absurd h (by decide)
            have hEE := HEE.out
            rw [if_neg (by rw [hck]; decide)] at hEE
            have HEE := Lib.hid hEE
            unfold misV
            clear hEE ev hck
            go_wp2_with ((with_reducible refine wpList_stI (cells := #[.int .i64 0, .int .u8 0, .int .i64 0, .int .u8 0, .int .u16 0, .int .i64 0, .int .i64 0, .slice none 0 0, .slice none 0 0, .int .u16 0]) rfl (.tmp 4) (.tmp 97) rfl HY.out ?_ ?_ ?_ ?_ ?_ ?_); exact rfl; exact rfl; exact rfl; exact rfl; exact rfl; intro W X3 K3)
            have B3 : Below w.heap.size w W := HK.out.trans (K3.below (fun q hq => show q ≠ w.heap.size by omega))
            have he := HEE.out
            subst he
            exact bodyPost_ret (v := .tuple #[.agg #[.int .i64 0, .int .u8 0, .int .i64 0, .int .u8 0, .int .u16 0, .int .i64 0, .int .i64 0, .slice none 0 0, .slice none 0 0, .int .u16 0], .int .i64 0, .iface 77 (.agg #[.int .i64 f9, .string why9])]) (res39 _ w.heap.size _ W _ _ X3 rfl rfl rfl rfl) rfl ⟨_, RI.zero, rfl, EV.mis _ _, InsN.zero _ _, B3⟩
  · have hno := HON.out her
    have her6 : er = 6 := congrArg (·.2) hno
    subst her6
    clear her
    go_wp2_with ((with_reducible refine wpList_stI (cells := #[.int .i64 0, .int .u8 0, .int .i64 0, .int .u8 0, .int .u16 0, .int .i64 0, .int .i64 0, .slice none 0 0, .slice none 0 0, .int .u16 0]) rfl (.tmp 4) (.tmp 24) rfl HY.out ?_ ?_ ?_ ?_ ?_ ?_); exact rfl; exact rfl; exact rfl; exact rfl; exact rfl; intro W X3 K3)
    have B3 : Below w.heap.size w W := HK.out.trans (K3.below (fun q hq => show q ≠ w.heap.size by omega))
    have he := HNO.out (by decide)
    subst he
    exact bodyPost_ret (v := .tuple #[.agg #[.int .i64 0, .int .u8 0, .int .i64 0, .int .u8 0, .int .u16 0, .int .i64 0, .int .i64 0, .slice none 0 0, .slice none 0 0, .int .u16 0], .int .i64 0, .iface 77 (.agg #[.int .i64 i, .string ⟨#[110, 111, 32, 105, 110, 115, 116, 114, 117, 99, 116, 105, 111, 110, 32, 104, 97, 115, 32, 116, 104, 105, 115, 32, 110, 117, 109, 98, 101, 114]⟩])]) (res39 _ w.heap.size _ W _ _ X3 rfl rfl rfl rfl) rfl ⟨_, RI.zero, rfl, EV.mis _ _, InsN.zero _ _, B3⟩
end Go.Proofs.YtolifmpkillglaaGreatDoor
