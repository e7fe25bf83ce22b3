import Derived.Test.YtkdnnoioejfpgaaKc
set_option linter.unusedVariables false
set_option maxRecDepth 100000
namespace Go.Proofs.Ytkdnnoioejfpgaa
open Go.RowKit
/-! The document's Put. -/
theorem rd_lit2 (w : World) (o : Obj) (zs : List Int) (n : Nat) (hn : zs.length = n) (hm : n ≤ maxLen) (hr : rng zs) : Rd ((w.alloc o).alloc (.cells (BL zs) 5)) (w.heap.size + 2) (some ⟨w.heap.size + 1, 0, none⟩) n zs := by
  have := rd_lit (w.alloc o) zs n hn hm hr
  rwa [show (w.alloc o).heap.size = w.heap.size + 1 by simp] at this
set_option maxHeartbeats 1000000 in
theorem refput7_any (n : Nat) (l : List En) (hn : n ≤ 281474976710656) : PutESaid 10 n l (putP l) (putE l) := by
  intro w A c B hr hB
  have HV := Lib.hid hr
  have HL := Lib.hid hr.len
  have hcase : allE l = true ∨ allE l = false := by cases allE l; exact .inr rfl; exact .inl rfl
  have HC := Lib.hid hcase
  clear hr hcase
  go_enter Try.func10, Try.ntmps10
  go_wp2_with fail
  go_loopw [4] (fun i wr => ∃ j : Nat, j ≤ n ∧ i = .int .i64 j ∧ allE (l.take j) = true ∧ Below w.heap.size w wr) (fun i _ => n - (intOf i).toNat)
  case atStart => exact ⟨0, Nat.zero_le _, rfl, rfl, Below.refl _ _⟩
  case round =>
    obtain ⟨j, hj, rfl, ha, hbr⟩ := hrel
    have HA := Lib.hid ha
    have HB := Lib.hid hbr
    clear ha hbr
    have hz := HB.out.size
    by_cases hlt : j < n
    · obtain ⟨b, off, rfl, hbb, qb, q0, q1, q2, q3, q4, q5, q6⟩ := (HV.out.below HB.out hB).en j hlt
      have HS := Lib.hid (allE_snoc l j (by rw [HL.out]; exact hlt))
      have HN := Lib.hid (allE_no l j (by rw [HL.out]; exact hlt))
      have HM := Lib.hid (fun w => refmay_any (l.getD j en0) w qb)
      generalize l.getD j en0 = z at q0 q1 q2 q3 q4 q5 q6 HS HN HM
      clear qb
      cases hm : mayE z
      · have HX := Lib.hid (HN.out hm)
        rw [hm] at HM
        clear hm HN HS
        obtain ⟨k, cc, t, o, nn, i, x⟩ := z
        unfold En.val at HM
        simp only at q0 q1 q2 q3 q4 q5 q6 HM
        go_wp2_with fail
        refine (HM.out _).mono ?_
        rintro e w2 ⟨rfl, hb2⟩
        go_wp2_with fail
        go_returns
        unfold putP putE
        rw [HX.out]
        exact ⟨none, 0, rfl, OS.nil_, HB.out.trans (hb2.mono hz)⟩
      · have HX := Lib.hid hm
        rw [hm] at HM
        clear hm HN
        obtain ⟨k, cc, t, o, nn, i, x⟩ := z
        unfold En.val at HM
        simp only at q0 q1 q2 q3 q4 q5 q6 HM
        go_wp2_with fail
        refine (HM.out _).mono ?_
        rintro e w2 ⟨rfl, hb2⟩
        go_wp2_with fail
        go_roundw
        case rel => exact ⟨j + 1, by omega, by go_num, by rw [HS.out, HA.out, HX.out]; rfl, HB.out.trans (hb2.mono hz)⟩
        case measure => simp [intOf]; omega
    · obtain rfl : j = n := by omega
      have hal : allE l = true := by have := HA.out; rwa [List.take_of_length_le (by rw [HL.out]; omega)] at this
      have HAL := Lib.hid hal
      clear hal HA HC
      by_cases h255 : 255 < j
      · have i255 : ((j : Int) > 255) := by omega
        go_wp2_with fail
        go_returns
        unfold putP putE
        rw [HAL.out, if_pos rfl, if_pos rfl, if_pos (by rw [HL.out]; exact h255), if_pos (by rw [HL.out]; exact h255)]
        exact ⟨none, 0, rfl, OS.nil_, HB.out⟩
      · have i255 : ¬ ((j : Int) > 255) := by omega
        have i8 : (j : Int) % 256 = j := Int.emod_eq_of_lt (by omega) (by omega)
        have z1 := HB.out.size
        have e0 : putL l 0 = [0, (j : Int)] := by rw [putL_0, HL.out, dig_2, i8, show (j : Int) / 256 % 256 = 0 by omega]
        have ho1 := OS.fresh _ (Lt w.heap.size) (show ¬ Lt w.heap.size wr.heap.size by unfold Lt; omega) [0, (j : Int)] 2 rfl (by simp [maxLen]) (by intro y hy; simp at hy; omega)
        rw [show BL [0, (j : Int)] = #[.int .u8 0, .int .u8 j] from rfl, ← e0] at ho1
        have HO1 := Lib.hid ho1
        have HB1 := Lib.hid (HB.out.alloc HB.out.size (.cells #[.int .u8 0, .int .u8 j] 5))
        clear ho1 e0 z1
        go_wp2_with fail
        go_loopw [5, 6] (fun v i wr => ∃ (m d : Nat) (A' : Option Addr), m ≤ j ∧ i = .int .i64 m ∧ v = .slice A' (2 + 4 * m : Nat) d ∧ OS wr (Lt w.heap.size) A' (2 + 4 * m) d (putL l m) ∧ Below w.heap.size w wr) (fun _ i _ => j - (intOf i).toNat)
        case atStart => exact ⟨0, 2, _, Nat.zero_le _, rfl, rfl, HO1.out, HB1.out⟩
        case round =>
          clear HB1 HO1
          obtain ⟨m, d, A', hm, rfl, rfl, hor, hbr⟩ := hrel
          have HO := Lib.hid hor
          have HB := Lib.hid hbr
          clear hor hbr
          by_cases hlt : m < j
          · obtain ⟨b, off, rfl, hbb, qb, q0, q1, q2, q3, q4, q5, q6⟩ := (HV.out.below HB.out hB).en m hlt
            have HS := putL_snoc l m (by rw [HL.out]; exact hlt)
            have hmz := allE_at l m (by rw [HL.out]; exact hlt) HAL.out
            have hk := mayE_kinds _ hmz
            have hrg := encE_rng _ qb hmz
            unfold encE at HS hrg
            clear hmz
            generalize l.getD m en0 = z at q0 q1 q2 q3 q4 q5 q6 HS hk hrg qb
            have hz := HB.out.size
            obtain ⟨k, cc, t, o, nn, i, x⟩ := z
            obtain ⟨⟨k0, k1⟩, ⟨c0, c1⟩, ⟨t0, t1⟩, ⟨n0, n1⟩, ⟨i0, i1⟩, ⟨x0, x1⟩⟩ := qb
            simp only at q0 q1 q2 q3 q4 q5 q6 HS hk hrg k0 k1 c0 c1 t0 t1 n0 n1 i0 i1 x0 x1
            rcases hk with hk | ⟨hk, rfl | ⟨rfl, hi⟩⟩
            · rw [if_neg (by omega)] at HS hrg
              have HS := Lib.hid HS
              have HR := Lib.hid (rd_lit2 wr (.cells #[.int .u8 k, .int .u16 cc, .int .u8 t, .bool o, .int .u16 nn, .int .u8 i, .int .u8 x] 45) [k, cc / 256, cc % 256, t] 4 rfl (by simp [maxLen]) hrg)
              have w1 : IntKind.u16.wrap (cc.tdiv 256) = cc / 256 := by rw [Int.tdiv_eq_ediv_of_nonneg c0]; unfold IntKind.wrap; simp [IntKind.signed, IntKind.bits]; omega
              have w2 : cc / 256 % 256 = cc / 256 := by omega
              have k4 : k ≤ 4 := hk.2
              clear hrg
              go_wp2_with (at_builtin; refine wpList_appS rfl _ _ rfl (Lt w.heap.size) A' (2 + 4 * m) d _ rfl ((HO.out.alloc _).alloc _) _ _ 4 4 [k, cc / 256, cc % 256, t] rfl HR.out (2 + 4 * (m + 1)) (by omega) (putL l (m + 1)) HS.out (by omega) (fun j hj => by unfold Lt at hj; simp; omega) ?_; intro A2 d2 w2 ho2 hb2)
              go_roundw
              case rel => exact ⟨m + 1, d2, A2, by omega, by go_num, rfl, ho2, ((HB.out.alloc hz _).alloc (by simp; omega) _).trans (hb2.below fun _ h => h)⟩
              case measure => simp [intOf]; omega
            · rw [if_pos hk, if_pos rfl] at HS hrg
              have HS := Lib.hid HS
              have HR := Lib.hid (rd_lit2 wr (.cells #[.int .u8 k, .int .u16 cc, .int .u8 t, .bool true, .int .u16 nn, .int .u8 i, .int .u8 x] 45) [k, 0, nn / 256, nn % 256] 4 rfl (by simp [maxLen]) hrg)
              have w1 : IntKind.u16.wrap (nn.tdiv 256) = nn / 256 := by rw [Int.tdiv_eq_ediv_of_nonneg n0]; unfold IntKind.wrap; simp [IntKind.signed, IntKind.bits]; omega
              have w2 : nn / 256 % 256 = nn / 256 := by omega
              have k4 : ¬ k ≤ 4 := by omega
              clear hrg hk
              go_wp2_with (at_builtin; refine wpList_appS rfl _ _ rfl (Lt w.heap.size) A' (2 + 4 * m) d _ rfl ((HO.out.alloc _).alloc _) _ _ 4 4 [k, 0, nn / 256, nn % 256] rfl HR.out (2 + 4 * (m + 1)) (by omega) (putL l (m + 1)) HS.out (by omega) (fun j hj => by unfold Lt at hj; simp; omega) ?_; intro A2 d2 w2 ho2 hb2)
              go_roundw
              case rel => exact ⟨m + 1, d2, A2, by omega, by go_num, rfl, ho2, ((HB.out.alloc hz _).alloc (by simp; omega) _).trans (hb2.below fun _ h => h)⟩
              case measure => simp [intOf]; omega
            · rw [if_pos hk, if_neg (by decide)] at HS hrg
              have HS := Lib.hid HS
              have HR := Lib.hid (rd_lit2 wr (.cells #[.int .u8 k, .int .u16 cc, .int .u8 t, .bool false, .int .u16 nn, .int .u8 i, .int .u8 x] 45) [k, 128 + i, x, t] 4 rfl (by simp [maxLen]) hrg)
              have k4 : ¬ k ≤ 4 := by omega
              have w1 : (128 + i) % 256 = 128 + i := by omega
              clear hrg hk
              go_wp2_with (at_builtin; refine wpList_appS rfl _ _ rfl (Lt w.heap.size) A' (2 + 4 * m) d _ rfl ((HO.out.alloc _).alloc _) _ _ 4 4 [k, 128 + i, x, t] rfl HR.out (2 + 4 * (m + 1)) (by omega) (putL l (m + 1)) HS.out (by omega) (fun j hj => by unfold Lt at hj; simp; omega) ?_; intro A2 d2 w2 ho2 hb2)
              go_roundw
              case rel => exact ⟨m + 1, d2, A2, by omega, by go_num, rfl, ho2, ((HB.out.alloc hz _).alloc (by simp; omega) _).trans (hb2.below fun _ h => h)⟩
              case measure => simp [intOf]; omega
          · obtain rfl : m = j := by omega
            go_wp2_with fail
            go_returns
            unfold putP putE
            rw [HAL.out, if_pos rfl, if_pos rfl, if_neg (by rw [HL.out]; exact h255), if_neg (by rw [HL.out]; exact h255)]
            have hl2 : (putB l).length = 2 + 4 * m := by unfold putB; rw [putL_len l _ (Nat.le_refl _), HL.out]
            rw [hl2]
            refine ⟨A', d, rfl, ?_, HB.out⟩
            have := HO.out
            unfold putB
            rw [HL.out]
            exact this
end Go.Proofs.Ytkdnnoioejfpgaa
