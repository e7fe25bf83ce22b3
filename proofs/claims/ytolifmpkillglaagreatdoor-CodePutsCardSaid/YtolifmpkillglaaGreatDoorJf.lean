import Derived.Test.YtolifmpkillglaaGreatDoorJe
set_option linter.unusedVariables false
set_option maxRecDepth 100000
namespace Go.Proofs.YtolifmpkillglaaGreatDoor
open Go.RowKit
/-! slices.EqualFunc by same, of the same instructions. -/
set_option maxHeartbeats 4000000 in
theorem eqf_eq (l : List Ins) (w : World) (A1 A2 : Option Addr) (n c1 c2 B1 B2 : Nat) (rs1 rs2 : List RI) (h1 : IV w B1 A1 n rs1 l) (h2 : IV w B2 A2 n rs2 l) (hB1 : B1 ≤ w.heap.size) (hB2 : B2 ≤ w.heap.size) (hn : n ≤ 281474976710656)
    (ht : ∀ i, i < n → (rs1.getD i RI.zero).tn ≤ 70000 ∧ (rs1.getD i RI.zero).mn ≤ 70000) :
    Calls Tryz.prog 12 #[.slice A1 n c1, .slice A2 n c2, .func (.func 13) #[] #[]] w fun e w' => e = .returned (.bool true) ∧ Below w.heap.size w w' := by
  have hnn : ((n : Int) != (n : Int)) = false := by simp
  have H1 := Lib.hid h1
  have H2 := Lib.hid h2
  clear h1 h2
  go_enter Tryz.func12, Tryz.ntmps12
  go_wp2_with fail
  go_loopw [17] (fun i wr => ∃ k : Nat, k ≤ n ∧ i = .int .i64 k ∧ Below w.heap.size w wr) (fun i _ => n - (intOf i).toNat)
  case atStart => exact ⟨0, Nat.zero_le _, rfl, Below.refl _ _⟩
  case round =>
    obtain ⟨k, hk, rfl, hb⟩ := hrel
    have i0 : (0 : Int) ≤ (k : Int) := by omega
    by_cases hlt : (k : Int) < (n : Int)
    · have V1 := H1.out.below hb hB1
      have V2 := H2.out.below hb hB2
      have hz := hb.size
      obtain ⟨b, o, hA, hbB, c0, c1, c2, c3, c4, c5, c6, c7, c8, c9⟩ := V1.ten k (by omega)
      obtain ⟨b', o', hA', hbB', d0, d1, d2, d3, d4, d5, d6, d7, d8, d9⟩ := V2.ten k (by omega)
      have R1 := V1.each k (by omega)
      have R2 := V2.each k (by omega)
      have hsc := R1.sc.trans R2.sc.symm
      have hht := ht k (by omega)
      have hbs : b < wr.heap.size := by omega
      have hbs' : b' < wr.heap.size := by omega
      generalize rs1.getD k RI.zero = r1 at c0 c1 c2 c3 c4 c5 c6 c7 c8 c9 R1 hsc hht
      generalize rs2.getD k RI.zero = r2 at d0 d1 d2 d3 d4 d5 d6 d7 d8 d9 R2 hsc
      obtain ⟨⟨s0, s1, s2, s3, s4, s5, s6, s7⟩, tA, tn, tc, mA, mn, mc⟩ := r1
      obtain ⟨sc2, tA2, tn2, tc2, mA2, mn2, mc2⟩ := r2
      simp only at hsc
      subst hsc
      simp only at c0 c1 c2 c3 c4 c5 c6 c7 c8 c9 d0 d1 d2 d3 d4 d5 d6 d7 d8 d9
      obtain ⟨X, Y, bx⟩ := two_box wr #[.int .i64 s0, .int .u8 s1, .int .i64 s2, .int .u8 s3, .int .u16 s4, .int .i64 s5, .int .i64 s6, .slice tA tn tc, .slice mA mn mc, .int .u16 s7] #[.int .i64 s0, .int .u8 s1, .int .i64 s2, .int .u8 s3, .int .u16 s4, .int .i64 s5, .int .i64 s6, .slice tA2 tn2 tc2, .slice mA2 mn2 mc2, .int .u16 s7] 28
      have HS : Hid (Calls Tryz.prog 13 #[.agg #[.int .i64 s0, .int .u8 s1, .int .i64 s2, .int .u8 s3, .int .u16 s4, .int .i64 s5, .int .i64 s6, .slice tA tn tc, .slice mA mn mc, .int .u16 s7], .agg #[.int .i64 s0, .int .u8 s1, .int .i64 s2, .int .u8 s3, .int .u16 s4, .int .i64 s5, .int .i64 s6, .slice tA2 tn2 tc2, .slice mA2 mn2 mc2, .int .u16 s7]] ((wr.alloc (.cells #[.int .i64 s0, .int .u8 s1, .int .i64 s2, .int .u8 s3, .int .u16 s4, .int .i64 s5, .int .i64 s6, .slice tA tn tc, .slice mA mn mc, .int .u16 s7] 28)).alloc (.cells #[.int .i64 s0, .int .u8 s1, .int .i64 s2, .int .u8 s3, .int .u16 s4, .int .i64 s5, .int .i64 s6, .slice tA2 tn2 tc2, .slice mA2 mn2 mc2, .int .u16 s7] 28)) fun e w' => e = .returned (.bool true) ∧ Below ((wr.alloc (.cells #[.int .i64 s0, .int .u8 s1, .int .i64 s2, .int .u8 s3, .int .u16 s4, .int .i64 s5, .int .i64 s6, .slice tA tn tc, .slice mA mn mc, .int .u16 s7] 28)).alloc (.cells #[.int .i64 s0, .int .u8 s1, .int .i64 s2, .int .u8 s3, .int .u16 s4, .int .i64 s5, .int .i64 s6, .slice tA2 tn2 tc2, .slice mA2 mn2 mc2, .int .u16 s7] 28)).heap.size ((wr.alloc (.cells #[.int .i64 s0, .int .u8 s1, .int .i64 s2, .int .u8 s3, .int .u16 s4, .int .i64 s5, .int .i64 s6, .slice tA tn tc, .slice mA mn mc, .int .u16 s7] 28)).alloc (.cells #[.int .i64 s0, .int .u8 s1, .int .i64 s2, .int .u8 s3, .int .u16 s4, .int .i64 s5, .int .i64 s6, .slice tA2 tn2 tc2, .slice mA2 mn2 mc2, .int .u16 s7] 28)) w') := Lib.hid (same_eq (l.getD k Ins.zero) ⟨⟨s0, s1, s2, s3, s4, s5, s6, s7⟩, tA, tn, tc, mA, mn, mc⟩ ⟨⟨s0, s1, s2, s3, s4, s5, s6, s7⟩, tA2, tn2, tc2, mA2, mn2, mc2⟩ _ B1 B2 (R1.below bx (by omega)) (R2.below bx (by omega)) (by have := bx.size; omega) (by have := bx.size; omega) hht.1 hht.2)
      have HX := Lib.hid X
      have HY := Lib.hid Y
      have hz2 := bx.size
      have HB := Lib.hid (hb.trans (bx.mono hz))
      subst hA hA'
      clear V1 V2 hb R1 R2 hht X Y bx
      go_upto_region 7 with (fail)
      clear c0 c1 c2 c3 c4 c5 c6 c7 c8 c9 d0 d1 d2 d3 d4 d5 d6 d7 d8 d9
      generalize (wr.alloc (.cells #[.int .i64 s0, .int .u8 s1, .int .i64 s2, .int .u8 s3, .int .u16 s4, .int .i64 s5, .int .i64 s6, .slice tA tn tc, .slice mA mn mc, .int .u16 s7] 28)).alloc (.cells #[.int .i64 s0, .int .u8 s1, .int .i64 s2, .int .u8 s3, .int .u16 s4, .int .i64 s5, .int .i64 s6, .slice tA2 tn2 tc2, .slice mA2 mn2 mc2, .int .u16 s7] 28) = w1 at HX HY HB HS hz2 ⊢
      go_wp2_with (first | ((with_reducible refine wpList_ldI rfl (.tmp 8) rfl HX.out ?_ ?_ ?_); exact rfl; exact rfl) | ((with_reducible refine wpList_ldI rfl (.tmp 9) rfl HY.out ?_ ?_ ?_); exact rfl; exact rfl))
      refine HS.out.mono ?_
      rintro e w5 ⟨rfl, b5⟩
      have HB := Lib.hid (HB.out.trans (b5.mono (by omega)))
      clear b5
      go_wp2_with fail
      go_roundw
      case rel => exact ⟨k + 1, by omega, by go_num, HB.out⟩
      case measure => simp [intOf]; omega
    · obtain rfl : k = n := by omega
      go_wp2_with fail
      go_returns
      exact ⟨rfl, hb⟩
end Go.Proofs.YtolifmpkillglaaGreatDoor
