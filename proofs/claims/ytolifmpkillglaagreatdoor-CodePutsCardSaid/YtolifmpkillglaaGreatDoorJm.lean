import Derived.Test.YtolifmpkillglaaGreatDoorJl
set_option linter.unusedVariables false
set_option maxRecDepth 100000
namespace Go.Proofs.YtolifmpkillglaaGreatDoor
open Go.RowKit
/-! slices.EqualFunc by same, of whatever instructions. -/
theorem ins_take (l : List Ins) (k : Nat) (h : k < l.length) : l.take (k + 1) = l.take k ++ [l.getD k Ins.zero] := by
  rw [List.take_succ_eq_append_getElem h, List.getD_eq_getElem?_getD, List.getElem?_eq_getElem h]
  rfl
set_option maxHeartbeats 4000000 in
theorem eqf_u (l1 l2 : List Ins) (w : World) (A1 A2 : Option Addr) (n1 n2 c1 c2 B1 B2 : Nat) (rs1 rs2 : List RI) (h1 : IV w B1 A1 n1 rs1 l1) (h2 : IV w B2 A2 n2 rs2 l2) (hB1 : B1 ≤ w.heap.size) (hB2 : B2 ≤ w.heap.size) (hn : n1 ≤ 281474976710656) (hn2 : n2 ≤ 281474976710656)
    (ht : ∀ i, i < n1 → (rs1.getD i RI.zero).tn ≤ 70000 ∧ (rs1.getD i RI.zero).mn ≤ 70000) (ht2 : ∀ i, i < n2 → (rs2.getD i RI.zero).tn ≤ 70000 ∧ (rs2.getD i RI.zero).mn ≤ 70000) :
    Calls Tryz.prog 12 #[.slice A1 n1 c1, .slice A2 n2 c2, .func (.func 13) #[] #[]] w fun e w' => EqT e (l1 = l2) ∧ Below w.heap.size w w' := by
  by_cases hne : n1 = n2
  case neg =>
    have hnn : ((n1 : Int) != (n2 : Int)) = true := by rw [bne_iff_ne]; omega
    clear h1 h2 ht ht2
    go_enter Tryz.func12, Tryz.ntmps12
    go_wp2_with fail
    go_returns
    exact ⟨.no rfl, Below.refl _ _⟩
  subst hne
  have hnn : ((n1 : Int) != (n1 : Int)) = false := by simp
  have H1 := Lib.hid h1
  have H2 := Lib.hid h2
  have HT1 := Lib.hid ht
  have HT2 := Lib.hid ht2
  clear h1 h2 ht ht2
  go_enter Tryz.func12, Tryz.ntmps12
  go_wp2_with fail
  go_loopw [17] (fun i wr => ∃ k : Nat, k ≤ n1 ∧ i = .int .i64 k ∧ l1.take k = l2.take k ∧ Below w.heap.size w wr) (fun i _ => n1 - (intOf i).toNat)
  case atStart => exact ⟨0, Nat.zero_le _, rfl, rfl, Below.refl _ _⟩
  case round =>
    obtain ⟨k, hk, rfl, htk, hb⟩ := hrel
    have i0 : (0 : Int) ≤ (k : Int) := by omega
    by_cases hlt : (k : Int) < (n1 : Int)
    · have V1 := H1.out.below hb hB1
      have V2 := H2.out.below hb hB2
      have hz := hb.size
      obtain ⟨b, o, hA, hbB, c0, c1, c2, c3, c4, c5, c6, c7, c8, c9⟩ := V1.ten k (by omega)
      obtain ⟨b', o', hA', hbB', d0, d1, d2, d3, d4, d5, d6, d7, d8, d9⟩ := V2.ten k (by omega)
      have R1 := V1.each k (by omega)
      have R2 := V2.each k (by omega)
      have ht1 := HT1.out k (by omega)
      have ht2 := HT2.out k (by omega)
      have hbs : b < wr.heap.size := by omega
      have hbs' : b' < wr.heap.size := by omega
      have hst : l1.getD k Ins.zero = l2.getD k Ins.zero → l1.take (k + 1) = l2.take (k + 1) := fun h => by
        rw [ins_take l1 k (by have := H1.out.len; omega), ins_take l2 k (by have := H2.out.len; omega), htk, h]
      generalize rs1.getD k RI.zero = r1 at c0 c1 c2 c3 c4 c5 c6 c7 c8 c9 R1 ht1
      generalize rs2.getD k RI.zero = r2 at d0 d1 d2 d3 d4 d5 d6 d7 d8 d9 R2 ht2
      generalize l1.getD k Ins.zero = x1 at R1 hst
      generalize l2.getD k Ins.zero = x2 at R2 hst
      obtain ⟨⟨s0, s1, s2, s3, s4, s5, s6, s7⟩, tA, tn, tc, mA, mn, mc⟩ := r1
      obtain ⟨⟨u0, u1, u2, u3, u4, u5, u6, u7⟩, tA2, tn2, tc2, mA2, mn2, mc2⟩ := r2
      simp only at c0 c1 c2 c3 c4 c5 c6 c7 c8 c9 d0 d1 d2 d3 d4 d5 d6 d7 d8 d9
      obtain ⟨X, Y, bx⟩ := two_box wr #[.int .i64 s0, .int .u8 s1, .int .i64 s2, .int .u8 s3, .int .u16 s4, .int .i64 s5, .int .i64 s6, .slice tA tn tc, .slice mA mn mc, .int .u16 s7] #[.int .i64 u0, .int .u8 u1, .int .i64 u2, .int .u8 u3, .int .u16 u4, .int .i64 u5, .int .i64 u6, .slice tA2 tn2 tc2, .slice mA2 mn2 mc2, .int .u16 u7] 28
      have HS : Hid (Calls Tryz.prog 13 #[.agg #[.int .i64 s0, .int .u8 s1, .int .i64 s2, .int .u8 s3, .int .u16 s4, .int .i64 s5, .int .i64 s6, .slice tA tn tc, .slice mA mn mc, .int .u16 s7], .agg #[.int .i64 u0, .int .u8 u1, .int .i64 u2, .int .u8 u3, .int .u16 u4, .int .i64 u5, .int .i64 u6, .slice tA2 tn2 tc2, .slice mA2 mn2 mc2, .int .u16 u7]] ((wr.alloc (.cells #[.int .i64 s0, .int .u8 s1, .int .i64 s2, .int .u8 s3, .int .u16 s4, .int .i64 s5, .int .i64 s6, .slice tA tn tc, .slice mA mn mc, .int .u16 s7] 28)).alloc (.cells #[.int .i64 u0, .int .u8 u1, .int .i64 u2, .int .u8 u3, .int .u16 u4, .int .i64 u5, .int .i64 u6, .slice tA2 tn2 tc2, .slice mA2 mn2 mc2, .int .u16 u7] 28)) fun e w' => EqT e (x1 = x2) ∧ Below ((wr.alloc (.cells #[.int .i64 s0, .int .u8 s1, .int .i64 s2, .int .u8 s3, .int .u16 s4, .int .i64 s5, .int .i64 s6, .slice tA tn tc, .slice mA mn mc, .int .u16 s7] 28)).alloc (.cells #[.int .i64 u0, .int .u8 u1, .int .i64 u2, .int .u8 u3, .int .u16 u4, .int .i64 u5, .int .i64 u6, .slice tA2 tn2 tc2, .slice mA2 mn2 mc2, .int .u16 u7] 28)).heap.size ((wr.alloc (.cells #[.int .i64 s0, .int .u8 s1, .int .i64 s2, .int .u8 s3, .int .u16 s4, .int .i64 s5, .int .i64 s6, .slice tA tn tc, .slice mA mn mc, .int .u16 s7] 28)).alloc (.cells #[.int .i64 u0, .int .u8 u1, .int .i64 u2, .int .u8 u3, .int .u16 u4, .int .i64 u5, .int .i64 u6, .slice tA2 tn2 tc2, .slice mA2 mn2 mc2, .int .u16 u7] 28)) w') := Lib.hid (same_u x1 x2 ⟨⟨s0, s1, s2, s3, s4, s5, s6, s7⟩, tA, tn, tc, mA, mn, mc⟩ ⟨⟨u0, u1, u2, u3, u4, u5, u6, u7⟩, tA2, tn2, tc2, mA2, mn2, mc2⟩ _ B1 B2 (R1.below bx (by omega)) (R2.below bx (by omega)) (Nat.le_trans (by omega) bx.size) (Nat.le_trans (by omega) bx.size) ht1 ht2)
      have HX := Lib.hid X
      have HY := Lib.hid Y
      have HST := Lib.hid hst
      have hz2 := bx.size
      have HB := Lib.hid (hb.trans (bx.mono hz))
      subst hA hA'
      clear V1 V2 hb R1 R2 ht1 ht2 X Y bx hst htk
      go_upto_region 7 with (fail)
      clear c0 c1 c2 c3 c4 c5 c6 c7 c8 c9 d0 d1 d2 d3 d4 d5 d6 d7 d8 d9
      generalize (wr.alloc (.cells #[.int .i64 s0, .int .u8 s1, .int .i64 s2, .int .u8 s3, .int .u16 s4, .int .i64 s5, .int .i64 s6, .slice tA tn tc, .slice mA mn mc, .int .u16 s7] 28)).alloc (.cells #[.int .i64 u0, .int .u8 u1, .int .i64 u2, .int .u8 u3, .int .u16 u4, .int .i64 u5, .int .i64 u6, .slice tA2 tn2 tc2, .slice mA2 mn2 mc2, .int .u16 u7] 28) = w1 at HS HX HY HB hz2 ⊢
      go_wp2_with (first | ((with_reducible refine wpList_ldI rfl (.tmp 8) rfl HX.out ?_ ?_ ?_); exact rfl; exact rfl) | ((with_reducible refine wpList_ldI rfl (.tmp 9) rfl HY.out ?_ ?_ ?_); exact rfl; exact rfl))
      refine HS.out.mono ?_
      rintro e w5 ⟨⟨bb, rfl, hbb⟩, b5⟩
      have HB := Lib.hid (HB.out.trans (b5.mono (by omega)))
      clear b5
      cases bb
      · clear hbb
        go_wp2_with fail
        go_returns
        exact ⟨.no rfl, HB.out⟩
      · have HST := Lib.hid (HST.out (hbb rfl))
        clear hbb
        go_wp2_with fail
        go_roundw
        case rel => exact ⟨k + 1, by omega, by go_num, HST.out, HB.out⟩
        case measure => simp [intOf]; omega
    · obtain rfl : k = n1 := by omega
      have hE : l1 = l2 := by
        rwa [List.take_of_length_le (by rw [H1.out.len]; exact Nat.le_refl _), List.take_of_length_le (by rw [H2.out.len]; exact Nat.le_refl _)] at htk
      have HE := Lib.hid hE
      clear hE htk
      go_wp2_with fail
      go_returns
      exact ⟨.yes rfl HE.out, hb⟩
end Go.Proofs.YtolifmpkillglaaGreatDoor
