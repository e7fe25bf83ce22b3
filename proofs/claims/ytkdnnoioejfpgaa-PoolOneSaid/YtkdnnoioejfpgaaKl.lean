import Derived.Test.YtkdnnoioejfpgaaKk
set_option linter.unusedVariables false
set_option maxRecDepth 100000
namespace Go.Proofs.Ytkdnnoioejfpgaa
open Go.RowKit
/-! PoolBack's walk. -/
set_option maxHeartbeats 2000000 in
theorem pwalk_back (A A1 : Option Addr) (n c n1 c1 : Nat) (l : List En) (b : List Int) (r : Int) (w : World) (hn : n * 10 ≤ 140737488351232) (hn1 : n1 ≤ 140737488355328) (hc1 : n1 ≤ c1)
    (hr : RV enR w w.heap.size A n l) (hr1 : Rd w w.heap.size A1 n1 b) (hrr : 0 ≤ r ∧ r < 65536) :
    Calls Try.prog 6 #[.slice A n c, .slice A1 n1 c1, .int .u16 r] w fun e w' => e = .returned (.bool true) ∧ Below w.heap.size w w' := by
  have P1 := Lib.hid (put7_any n l (by omega))
  have HR := Lib.hid hr
  have HR1 := Lib.hid hr1
  have G2 := Lib.hid (get7_any n1 b (by omega) hr1.len hr1.rg)
  have HD := Lib.hid (fun ts h => gP_dec b hr1.rg ts h)
  have S1 := Lib.hid (fun w => split_any r w hrr.1 hrr.2)
  have S2 := Lib.hid (fun w => ref7_any (splB r) (splN r) (splT r) w (by unfold splN; split <;> omega) (by unfold splN; split <;> omega) (by unfold splT; split <;> omega) (by unfold splT; split <;> omega))
  rw [(ref_spl r hrr.1 hrr.2).1, (ref_spl r hrr.1 hrr.2).2] at S2
  generalize splB r = v1 at S1 S2
  generalize splN r = v2 at S1 S2
  generalize splT r = v3 at S1 S2
  have HLn := Lib.hid hr.len
  have HOK := Lib.hid hr.rg
  have HC := Lib.hid (fun h : putE l = 0 => (⟨(putE_0 h).1, (putE_0 h).2, (putP_yes (putE_0 h).1 (putE_0 h).2).1⟩ : allE l = true ∧ l.length ≤ 255 ∧ putP l = putB l))
  clear hr hr1 hrr
  generalize putE l = E at P1 HC
  generalize putP l = p at P1 HC
  obtain ⟨k, hk⟩ : ∃ k, k = p.length := ⟨_, rfl⟩
  unfold PutESaid at P1
  rw [← hk] at P1
  have HK := Lib.hid hk
  clear hk
  have HE : Hid (E = 0 ∨ ¬ E = 0) := Lib.hid (by omega)
  go_enter Try.func6, Try.ntmps6
  go_wp2_with fail
  refine (P1.out _ _ _ _ HR.out (Nat.le_refl _)).mono ?_
  rintro e w1 ⟨A5, d5, rfl, ho5, hb5⟩
  have HO5 := Lib.hid ho5
  have HB5 := Lib.hid hb5
  clear ho5 hb5 P1
  go_upto_if 26 with (fail)
  go_cut [] from 20 to 48 (fun wx => Below w.heap.size w wx)
  case first =>
    rcases HE.out with he | he
    · obtain ⟨ha, hl, hp⟩ := HC.out he
      subst he
      have hlen : (putB l).length = 2 + 4 * n := by unfold putB; rw [putL_len l _ (Nat.le_refl _), HLn.out]
      have hk2 : k = 2 + 4 * n := by rw [HK.out, hp, hlen]
      have hg := gP_put l HOK.out ha hl
      have hn255 : n ≤ 255 := by rw [← HLn.out]; exact hl
      have hO := HO5.out
      rw [hp] at hO
      have P3 := get7_any (2 + 4 * n) (putB l) (by omega) hlen hO.rd.rg
      rw [hg] at P3
      unfold GetESaid at P3
      simp only at P3
      have hhl := HLn.out
      rw [hhl] at P3
      have HP3 := Lib.hid P3
      have HO := Lib.hid hO
      clear P3 hg hO hp ha hl HE HC hlen hhl HK HO5
      subst hk2
      have hd5 := HO.out.le
      go_wp2_with fail
      refine (HP3.out _ _ _ _ HO.out.rd hd5 (Nat.le_refl _)).mono ?_
      rintro e w2 ⟨A6, d6, rfl, ho6, hb6⟩
      have HB6 := Lib.hid (HB5.out.trans (hb6.mono HB5.out.size))
      have HO6 := Lib.hid ho6.rv
      clear ho6 hb6
      go_wp2_with fail
      refine (sameE_yes A A6 n c d6 _ _ l w2 (by omega) (HR.out.below HB6.out (Nat.le_refl _)) HO6.out).mono ?_
      rintro e w3 ⟨rfl, q, rfl⟩
      have hq : (2 + 4 * (n : Int) != 2 + 4 * (n : Int)) = false := by simp
      go_wp2_with fail
      go_meet
      exact below_drewN HB6.out q
    · have heb : (E == 0) = false := beq_eq_false_iff_ne.2 he
      clear he HE HC
      go_wp2_with fail
      go_meet
      exact HB5.out
  case rest =>
    have HB9 := Lib.hid hcut
    clear hcut HB5 HO5 HE HC HOK HLn HK
    go_wp2_with fail
    refine (G2.out _ _ _ _ (HR1.out.below HB9.out (Nat.le_refl _)) hc1 HB9.out.size).mono ?_
    rintro e w2 ⟨A6, d6, rfl, ho6, hb6⟩
    have HO6 := Lib.hid ho6
    have HB6 := Lib.hid (HB9.out.trans (hb6.mono HB9.out.size))
    clear ho6 hb6 G2
    have hd := HD.out
    clear HD
    generalize gP b = g at hd HO6 ⊢
    obtain ⟨ts, E⟩ := g
    simp only at HO6 hd ⊢
    go_upto_if 55 with (fail)
    go_cut [] from 49 to 68 (fun wx => Below w.heap.size w wx)
    case first =>
      by_cases he : E = 0
      · subst he
        obtain ⟨h255, ha, hok, hB⟩ := hd ts rfl
        obtain ⟨hp, hE⟩ := putP_yes ha h255
        have P5 := put7_any ts.length ts (by omega)
        have hbl := HR1.out.len
        rw [hp, hE, hB] at P5
        unfold PutESaid at P5
        rw [hbl] at P5
        have HP5 := Lib.hid P5
        clear hd hp hE P5 ha hok hB hbl
        go_wp2_with fail
        refine (HP5.out _ _ _ _ HO6.out.rv (Nat.le_refl _)).mono ?_
        rintro e w3 ⟨A7, d7, rfl, ho7, hb7⟩
        have HB7 := Lib.hid (HB6.out.trans (hb7.mono HB6.out.size))
        have HO7 := Lib.hid ho7.rd
        clear ho7 hb7
        go_wp2_with fail
        refine (same_yes A7 A1 n1 d7 c1 _ _ b w3 (by omega) HO7.out (HR1.out.below HB7.out (Nat.le_refl _))).mono ?_
        rintro e w4 ⟨rfl, q, rfl⟩
        go_wp2_with fail
        go_meet
        exact below_drewN HB7.out q
      · have heb : (E == 0) = false := beq_eq_false_iff_ne.2 he
        clear hd he
        go_wp2_with fail
        go_meet
        exact HB6.out
    case rest =>
      have HBc := Lib.hid hcut
      clear hcut HB6 HO6 HB9 hd
      go_wp2_with fail
      refine (S1.out _).mono ?_
      rintro e w5 ⟨rfl, rfl⟩
      go_wp2_with fail
      refine (S2.out _).mono ?_
      rintro e w5 ⟨rfl, rfl⟩
      go_wp2_with fail
      refine (pworks_any _).mono ?_
      rintro e w4 ⟨rfl, hb4⟩
      go_wp2_with fail
      go_returns
      exact ⟨rfl, HBc.out.trans (hb4.mono HBc.out.size)⟩
end Go.Proofs.Ytkdnnoioejfpgaa
