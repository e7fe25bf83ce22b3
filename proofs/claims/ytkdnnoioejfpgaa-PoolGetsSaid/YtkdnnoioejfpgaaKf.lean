import Derived.Test.YtkdnnoioejfpgaaKe
import Derived.Deep.CutRange
import Derived.Deep.CutBlock
import Derived.Deep.DeepCutAuto
import Derived.Deep.RegionLaw
set_option linter.unusedVariables false
set_option maxRecDepth 100000
namespace Go.Proofs.Ytkdnnoioejfpgaa
open Go.RowKit
/-! The document's Get. -/
theorem Rd.four {w : World} {B : Nat} {A : Option Addr} {a b c d : Int} (h : Rd w B A 4 [a, b, c, d]) :
    ∃ g off, A = some ⟨g, off, none⟩ ∧ g < B ∧ w.cell? ⟨g, off, none⟩ = some (.int .u8 a) ∧ w.cell? ⟨g, off + 1, none⟩ = some (.int .u8 b) ∧ w.cell? ⟨g, off + 2, none⟩ = some (.int .u8 c) ∧ w.cell? ⟨g, off + 3, none⟩ = some (.int .u8 d) := by
  obtain ⟨g, off, e, hg, hc⟩ := h.2.2 (by omega)
  exact ⟨g, off, e, hg, hc 0 (by omega), hc 1 (by omega), hc 2 (by omega), hc 3 (by omega)⟩
set_option maxHeartbeats 2000000 in
theorem refget7_any (n : Nat) (l : List Int) (hn : n ≤ 140737488355328) (hl : l.length = n) (hr : rng l) : GetESaid 14 n l (gP l) := by
  intro w A c B hrd hc hB
  subst hl
  have HV := Lib.hid hrd
  have HRG := Lib.hid hr
  clear hrd
  obtain ⟨g, hg⟩ : ∃ g, g = gP l := ⟨_, rfl⟩
  rw [← hg]
  unfold gP at hg
  by_cases h2 : l.length < 2
  · rw [if_pos h2] at hg
    subst hg
    have HG := Lib.hid (fun w => refget_short A l.length c (0 : Nat) 2 w hc (by omega) (.inr (.inl rfl)) (by omega) (by omega) (by omega))
    clear hr h2
    go_enter Try.func14, Try.ntmps14
    go_wp2_with fail
    refine (HG.out _).mono ?_
    rintro e w1 ⟨rfl, rfl⟩
    go_wp2_with fail
    go_returns
    exact ⟨none, 0, rfl, OV.nil_, Below.refl _ _⟩
  · rw [if_neg h2] at hg
    have HG := Lib.hid (fun w (hr : Rd w B A l.length l) => refget_ok A l.length c B 0 2 l w hc (by omega) hr (.inr (.inl rfl)) (by omega))
    rw [take_2 l (by omega), num7_2] at HG
    have hb0 := rng_getD hr 0
    have hb1 := rng_getD hr 1
    obtain ⟨N, hN⟩ : ∃ N : Nat, 256 * l.getD 0 0 + l.getD 1 0 = (N : Int) := ⟨(256 * l.getD 0 0 + l.getD 1 0).toNat, by omega⟩
    have hN2 : N < 65536 := by omega
    rw [hN] at HG hg
    rw [Int.toNat_natCast] at hg
    clear hb0 hb1 hN hr
    by_cases h255 : 255 < N
    · rw [if_pos (by omega)] at hg
      subst hg
      have i255 : (N : Int) > 255 := by omega
      go_enter Try.func14, Try.ntmps14
      go_wp2_with fail
      refine (HG.out _ HV.out).mono ?_
      rintro e w1 ⟨rfl, rfl⟩
      go_wp2_with fail
      go_returns
      exact ⟨none, 0, rfl, OV.nil_, Below.refl _ _⟩
    · rw [if_neg (by omega)] at hg
      have i255 : ¬ (N : Int) > 255 := by omega
      have HGG := Lib.hid hg
      clear hg
      go_enter Try.func14, Try.ntmps14
      go_wp2_with fail
      refine (HG.out _ HV.out).mono ?_
      rintro e w1 ⟨rfl, rfl⟩
      go_wp2_with fail
      go_loopw [6, 7] (fun v i wr => ∃ (m d : Nat) (A' : Option Addr) (acc : List En), m ≤ N ∧ i = .int .i64 m ∧ v = .slice A' m d ∧ OV enR 45 wr (Lt w.heap.size) A' m d acc ∧ g = gEs l acc (N - m) (2 + 4 * m) ∧ 2 + 4 * m ≤ l.length ∧ Below w.heap.size w wr) (fun _ i _ => N - (intOf i).toNat)
      case atStart => exact ⟨0, 0, none, [], Nat.zero_le _, rfl, rfl, OV.nil_, HGG.out, by omega, Below.refl _ _⟩
      case round =>
        clear HGG HG
        obtain ⟨m, d, A', acc, hm, rfl, rfl, hor, hgr, hil, hbr⟩ := hrel
        have HO := Lib.hid hor
        have HB := Lib.hid hbr
        clear hor hbr
        by_cases hlt : m < N
        · rw [show N - m = (N - m - 1) + 1 by omega] at hgr
          unfold gEs at hgr
          by_cases h4 : l.length < 2 + 4 * m + 4
          · rw [if_pos h4] at hgr
            subst hgr
            have HG2 := Lib.hid (fun w => refpart_short A l.length c (2 + 4 * m : Nat) 4 w hc (by omega) (by omega) (by omega) (by omega) (by omega))
            go_wp2_with fail
            refine (HG2.out _).mono ?_
            rintro e w1 ⟨rfl, rfl⟩
            go_wp2_with fail
            go_returns
            exact ⟨none, 0, rfl, OV.nil_, HB.out⟩
          · rw [if_neg h4] at hgr
            have HG2 := Lib.hid (fun w (hr : Rd w B A l.length l) (hB : B ≤ w.heap.size) => refpart_ok A l.length c B (2 + 4 * m) 4 l w hc (by omega) (by omega) hr hB (by omega))
            rw [take_4 l (2 + 4 * m) (by omega)] at HG2
            have ha := rng_getD HRG.out (2 + 4 * m)
            have hb := rng_getD HRG.out (2 + 4 * m + 1)
            have hcc := rng_getD HRG.out (2 + 4 * m + 2)
            have hd := rng_getD HRG.out (2 + 4 * m + 3)
            unfold entA at hgr
            generalize l.getD (2 + 4 * m) 0 = b0 at HG2 ha hgr
            generalize l.getD (2 + 4 * m + 1) 0 = b1 at HG2 hb hgr
            generalize l.getD (2 + 4 * m + 2) 0 = b2 at HG2 hcc hgr
            generalize l.getD (2 + 4 * m + 3) 0 = b3 at HG2 hd hgr
            have hmi := mayE_ent b0 b1 b2 b3 ha hb hcc hd
            have HZ := Lib.hid (entC_ok b0 b1 b2 b3 ha hb hcc hd)
            have hz := HB.out.size
            go_wp2_with fail
            refine (HG2.out _ (HV.out.below HB.out hB) (by omega)).mono ?_
            rintro e w2 ⟨A5, c5, rfl, ho5, hb5⟩
            obtain ⟨pg, poff, rfl, hpg, p0, p1, p2, p3⟩ := ho5.rd.four
            have p0 := p0
            have hc5 : 4 ≤ c5 := ho5.le
            have HB2 := Lib.hid (HB.out.trans (hb5.mono hz))
            have HO2 := Lib.hid (HO.out.below hb5)
            clear ho5 hb5 HO HG2
            have hz2 := HB2.out.size
            by_cases hok : mayE (entC b0 b1 b2 b3) = true
            · rw [if_pos hok] at hgr
              have hk := hmi.1 hok
              clear hok hmi
              have HGR := Lib.hid hgr
              clear hgr
              have HX := Lib.hid (Blk.new w2 #[.int .u8 b0, .int .u16 0, .int .u8 0, .bool false, .int .u16 0, .int .u8 0, .int .u8 0] 45)
              have HBW := Lib.hid ((Below.refl w2.heap.size w2).alloc (Nat.le_refl _) (.cells #[.int .u8 b0, .int .u16 0, .int .u8 0, .bool false, .int .u16 0, .int .u8 0, .int .u8 0] 45))
              have hw16 : ∀ z : Int, IntKind.u16.wrap z = z % 65536 := fun z => by simp [IntKind.wrap, IntKind.bits, IntKind.signed]
              have hw8 : ∀ z : Int, IntKind.u8.wrap z = z % 256 := fun z => by simp [IntKind.wrap, IntKind.bits, IntKind.signed]
              have v1 : IntKind.u16.wrap b1 = b1 := by rw [hw16]; omega
              have v2 : IntKind.u16.wrap b2 = b2 := by rw [hw16]; omega
              have v3 : IntKind.u16.wrap b3 = b3 := by rw [hw16]; omega
              have v4 : IntKind.u16.wrap (256 * b1) = 256 * b1 := by rw [hw16]; omega
              have v5 : IntKind.u16.wrap (256 * b1 + b2) = 256 * b1 + b2 := by rw [hw16]; omega
              have v6 : IntKind.u16.wrap (256 * b2) = 256 * b2 := by rw [hw16]; omega
              have v7 : IntKind.u16.wrap (256 * b2 + b3) = 256 * b2 + b3 := by rw [hw16]; omega
              have v8 : IntKind.u8.wrap (b1 - 128) = (b1 - 128) % 256 := hw8 _
              clear hw16 hw8
              have p0' := p0
              go_upto_block 2 with (fail)
              have X0 := HX.out
              have BW := HBW.out
              clear HX HBW
              generalize (w2.alloc (.cells #[.int .u8 b0, .int .u16 0, .int .u8 0, .bool false, .int .u16 0, .int .u8 0, .int .u8 0] 45)) = W at X0 BW ⊢
              have D0 : W.cell? ⟨w2.heap.size, 0, none⟩ = some (.int .u8 b0) := X0.cell 0
              have QQ3 : W.cell? ⟨pg, poff + 3, none⟩ = some (.int .u8 b3) := (BW.cell (p := ⟨pg, poff + 3, none⟩) hpg).trans p3
              obtain ⟨z, hZ⟩ : ∃ z, z = entC b0 b1 b2 b3 := ⟨_, rfl⟩
              rw [← hZ] at HZ HGR
              obtain ⟨z0, z1, z2, z3, z4, z5, z6⟩ := z
              have k42 : ¬ b0 < 1 := by omega
              have k43 : ¬ b0 > 6 := by omega
              have e1 : (b0 == 1) = true ∧ (b3 != 0) = false ∨ (b0 == 1) = false := by
                by_cases h : b0 = 1
                · have : b3 = 0 := by omega
                  exact .inl ⟨by simpa using h, by simpa using this⟩
                · exact .inr (beq_eq_false_iff_ne.2 h)
              go_cut [] from 41 to 114 (fun wx => Blk wx w2.heap.size #[.int .u8 z0, .int .u16 z1, .int .u8 z2, .bool z3, .int .u16 z4, .int .u8 z5, .int .u8 z6] 45 ∧ Below w2.heap.size w2 wx)
              case first =>
                unfold entC at hZ
                by_cases h5 : b0 = 5 ∨ b0 = 6
                · rw [if_pos h5] at hZ
                  have k44 : ¬ b0 ≤ 4 := by omega
                  have e1 : (b0 == 1) = false := beq_eq_false_iff_ne.2 (by omega)
                  have hb1 : b1 = 0 ∨ 128 ≤ b1 := by omega
                  clear hk h5
                  by_cases hb0 : b1 = 0
                  · subst hb0
                    rw [if_pos rfl] at hZ
                    cases hZ
                    have Fa3 : W.frozen? ⟨w2.heap.size, 3, none⟩ = false := X0.froz 3
                    have Ca3 : W.cell? ⟨w2.heap.size, 3, none⟩ = some (.bool false) := X0.cell 3
                    have Qa1 : W.cell? ⟨pg, poff + 1, none⟩ = some (.int .u8 0) := (BW.cell (p := ⟨pg, poff + 1, none⟩) hpg).trans p1
                    go_upto_region 22 with (fail)
                    have X1 : Blk (W.setCell ⟨w2.heap.size, 3, none⟩ (.bool true)) w2.heap.size #[.int .u8 b0, .int .u16 0, .int .u8 0, .bool true, .int .u16 0, .int .u8 0, .int .u8 0] 45 := X0.set 3 _
                    have B1 : Below w2.heap.size w2 (W.setCell ⟨w2.heap.size, 3, none⟩ (.bool true)) := BW.setCell (Nat.le_refl _) _
                    clear X0 BW Fa3 Ca3 Qa1
                    generalize (W.setCell ⟨w2.heap.size, 3, none⟩ (.bool true)) = W1 at X1 B1 ⊢
                    have Qb2 : W1.cell? ⟨pg, poff + 2, none⟩ = some (.int .u8 b2) := (B1.cell (p := ⟨pg, poff + 2, none⟩) hpg).trans p2
                    have Qb3 : W1.cell? ⟨pg, poff + 3, none⟩ = some (.int .u8 b3) := (B1.cell (p := ⟨pg, poff + 3, none⟩) hpg).trans p3
                    have hne : ¬ pg = w2.heap.size := by omega
                    have Fb4 : W1.frozen? ⟨w2.heap.size, 4, none⟩ = false := X1.froz 4
                    have Cb4 : W1.cell? ⟨w2.heap.size, 4, none⟩ = some (.int .u16 0) := X1.cell 4
                    go_region_law (fail)
                    all_goals
                      go_wp2_with fail
                      go_meet
                      exact ⟨X1.set 4 _, (B1.setCell (Nat.le_refl _) _).drew⟩
                  · have e2 : (b1 == 0) = false := beq_eq_false_iff_ne.2 hb0
                    have e3 : b1 ≥ 128 := by omega
                    rw [if_neg hb0] at hZ
                    cases hZ
                    have Qa1 : W.cell? ⟨pg, poff + 1, none⟩ = some (.int .u8 b1) := (BW.cell (p := ⟨pg, poff + 1, none⟩) hpg).trans p1
                    go_upto_region 24 with (fail)
                    have Qa2 : W.cell? ⟨pg, poff + 2, none⟩ = some (.int .u8 b2) := (BW.cell (p := ⟨pg, poff + 2, none⟩) hpg).trans p2
                    have Qa3 : W.cell? ⟨pg, poff + 3, none⟩ = some (.int .u8 b3) := (BW.cell (p := ⟨pg, poff + 3, none⟩) hpg).trans p3
                    have hne : ¬ pg = w2.heap.size := by omega
                    have Fa5 : W.frozen? ⟨w2.heap.size, 5, none⟩ = false := X0.froz 5
                    have Ca5 : W.cell? ⟨w2.heap.size, 5, none⟩ = some (.int .u8 0) := X0.cell 5
                    have Fa6 : W.frozen? ⟨w2.heap.size, 6, none⟩ = false := X0.froz 6
                    have Ca6 : W.cell? ⟨w2.heap.size, 6, none⟩ = some (.int .u8 0) := X0.cell 6
                    have Fa2 : W.frozen? ⟨w2.heap.size, 2, none⟩ = false := X0.froz 2
                    have Ca2 : W.cell? ⟨w2.heap.size, 2, none⟩ = some (.int .u8 0) := X0.cell 2
                    go_region_law (fail)
                    all_goals
                      go_wp2_with fail
                      go_meet
                      exact ⟨((X0.set 5 _).set 6 _).set 2 _, (((BW.setCell (Nat.le_refl _) _).setCell (Nat.le_refl _) _).setCell (Nat.le_refl _) _).drew⟩
                · rw [if_neg h5] at hZ
                  cases hZ
                  have k4 : 1 ≤ b0 ∧ b0 ≤ 4 := by omega
                  have k41 := k4.2
                  clear hk h5
                  rcases e1 with ⟨e1, e2⟩ | e1
                  all_goals
                      go_upto_region 18 with (fail)
                      have Qa1 : W.cell? ⟨pg, poff + 1, none⟩ = some (.int .u8 b1) := (BW.cell (p := ⟨pg, poff + 1, none⟩) hpg).trans p1
                      have Qa2 : W.cell? ⟨pg, poff + 2, none⟩ = some (.int .u8 b2) := (BW.cell (p := ⟨pg, poff + 2, none⟩) hpg).trans p2
                      have Qa3 : W.cell? ⟨pg, poff + 3, none⟩ = some (.int .u8 b3) := (BW.cell (p := ⟨pg, poff + 3, none⟩) hpg).trans p3
                      have hne : ¬ pg = w2.heap.size := by omega
                      have Fa1 : W.frozen? ⟨w2.heap.size, 1, none⟩ = false := X0.froz 1
                      have Ca1 : W.cell? ⟨w2.heap.size, 1, none⟩ = some (.int .u16 0) := X0.cell 1
                      have Fa2 : W.frozen? ⟨w2.heap.size, 2, none⟩ = false := X0.froz 2
                      have Ca2 : W.cell? ⟨w2.heap.size, 2, none⟩ = some (.int .u8 0) := X0.cell 2
                      go_region_law (fail)
                      all_goals
                        have X1 : Blk (W.setCell ⟨w2.heap.size, 1, none⟩ (.int .u16 (256 * b1 + b2))).drew w2.heap.size #[.int .u8 b0, .int .u16 (256 * b1 + b2), .int .u8 0, .bool false, .int .u16 0, .int .u8 0, .int .u8 0] 45 := X0.set 1 _
                        have B1 : Below w2.heap.size w2 (W.setCell ⟨w2.heap.size, 1, none⟩ (.int .u16 (256 * b1 + b2))).drew := (BW.setCell (Nat.le_refl _) _).drew
                        clear Qa1 Qa2 Qa3 Fa1 Ca1 Fa2 Ca2
                        generalize (W.setCell ⟨w2.heap.size, 1, none⟩ (.int .u16 (256 * b1 + b2))).drew = W1 at X1 B1 ⊢
                        have Qb3 : W1.cell? ⟨pg, poff + 3, none⟩ = some (.int .u8 b3) := (B1.cell (p := ⟨pg, poff + 3, none⟩) hpg).trans p3
                        have Fb2 : W1.frozen? ⟨w2.heap.size, 2, none⟩ = false := X1.froz 2
                        have Cb2 : W1.cell? ⟨w2.heap.size, 2, none⟩ = some (.int .u8 0) := X1.cell 2
                        have X3 := Lib.hid (X1.set 2 (.int .u8 b3))
                        have B3 := Lib.hid (B1.setCell (p := ⟨w2.heap.size, 2, none⟩) (Nat.le_refl _) (.int .u8 b3))
                        clear X1 B1 X0 BW p0 p1 p2 p3
                        go_wp2_with fail
                        go_meet
                        exact ⟨X3.out, B3.out⟩
              case rest =>
                clear hZ hk D0 QQ3 k42 k43 e1
                obtain ⟨X3, B3⟩ := hcut
                clear X0 BW p0 p1 p2 p3 v1 v2 v3 v4 v5 v6 v7 v8
                have HB3 := Lib.hid (HB2.out.trans (B3.mono HB2.out.size))
                have HO3 := Lib.hid (HO2.out.below B3)
                have G0 : wc.cell? ⟨w2.heap.size, 0, none⟩ = some (.int .u8 z0) := X3.cell 0
                have G1 : wc.cell? ⟨w2.heap.size, 1, none⟩ = some (.int .u16 z1) := X3.cell 1
                have G2 : wc.cell? ⟨w2.heap.size, 2, none⟩ = some (.int .u8 z2) := X3.cell 2
                have G3 : wc.cell? ⟨w2.heap.size, 3, none⟩ = some (.bool z3) := X3.cell 3
                have G4 : wc.cell? ⟨w2.heap.size, 4, none⟩ = some (.int .u16 z4) := X3.cell 4
                have G5 : wc.cell? ⟨w2.heap.size, 5, none⟩ = some (.int .u8 z5) := X3.cell 5
                have G6 : wc.cell? ⟨w2.heap.size, 6, none⟩ = some (.int .u8 z6) := X3.cell 6
                have y3 := HB3.out.size
                have y4 : w2.heap.size < wc.heap.size := X3.lt
                have HLIT := Lib.hid (lit_en wc ⟨z0, z1, z2, z3, z4, z5, z6⟩ HZ.out)
                simp only at HLIT
                clear B3 X3
                go_wp2_with (at_builtin; refine wpList_appV enFit rfl _ _ rfl (Lt w.heap.size) A' m d acc rfl (HO3.out.alloc _) _ _ 1 1 [⟨z0, z1, z2, z3, z4, z5, z6⟩] rfl HLIT.out (m + 1) rfl _ rfl (by omega) (fun j hj => by unfold Lt at hj; simp; omega) ?_; intro A4 d4 w4 ho4 hb4)
                have HB4 := (HB3.out.alloc y3 _).trans (hb4.below (B := w.heap.size) fun _ h => h)
                go_roundw
                case rel => exact ⟨m + 1, d4, A4, _, by omega, by go_num, rfl, ho4, by rw [show N - (m + 1) = N - m - 1 by omega]; exact HGR.out, by omega, HB4⟩
                case measure => simp [intOf]; omega
            · rw [if_neg hok] at hgr
              subst hgr
              have hk := fun h => hok (hmi.2 h)
              clear hok hmi
              by_cases h5 : b0 = 5 ∨ b0 = 6
              · have e0 : b1 ≠ 0 ∧ ¬ 128 ≤ b1 := ⟨fun h => hk (.inr (.inr ⟨h5, .inl h⟩)), fun h => hk (.inr (.inr ⟨h5, .inr h⟩))⟩
                have e1 : (b0 == 1) = false := beq_eq_false_iff_ne.2 (by omega)
                have e2 : ¬ b0 < 1 := by omega
                have e3 : ¬ b0 > 6 := by omega
                have e4 : ¬ b0 ≤ 4 := by omega
                have e5 : (b1 == 0) = false := beq_eq_false_iff_ne.2 e0.1
                have e6 : ¬ b1 ≥ 128 := e0.2
                clear hk h5 e0
                go_wp2_with fail
                go_returns
                exact ⟨none, 0, rfl, OV.nil_, HB2.out.alloc HB2.out.size _⟩
              · by_cases h1 : b0 = 1
                · subst h1
                  have e5 : (b3 != 0) = true := by simpa using (fun h => hk (.inl ⟨rfl, h⟩))
                  clear hk h5
                  go_wp2_with fail
                  go_returns
                  exact ⟨none, 0, rfl, OV.nil_, HB2.out.alloc HB2.out.size _⟩
                · have e1 : (b0 == 1) = false := beq_eq_false_iff_ne.2 h1
                  by_cases h0 : b0 < 1
                  · clear hk h5
                    go_wp2_with fail
                    go_returns
                    exact ⟨none, 0, rfl, OV.nil_, HB2.out.alloc HB2.out.size _⟩
                  · have e6 : b0 > 6 := by
                      have : ¬ (2 ≤ b0 ∧ b0 ≤ 4) := fun h => hk (.inr (.inl h))
                      omega
                    clear hk h5
                    go_wp2_with fail
                    go_returns
                    exact ⟨none, 0, rfl, OV.nil_, HB2.out.alloc HB2.out.size _⟩
        · obtain rfl : m = N := by omega
          rw [Nat.sub_self] at hgr
          unfold gEs at hgr
          by_cases hfin : l.length = 2 + 4 * m
          · rw [if_pos hfin] at hgr
            subst hgr
            have hlen := HO.out.len
            have hE : ((l.length : Int) != 2 + 4 * (m : Int)) = false := by rw [hfin]; simp
            have HA := Lib.hid hlen
            go_wp2_with fail
            go_returns
            exact ⟨A', d, rfl, HO.out, HB.out⟩
          · rw [if_neg hfin] at hgr
            subst hgr
            have hE : ((l.length : Int) != 2 + 4 * (m : Int)) = true := by simp; omega
            go_wp2_with fail
            go_returns
            exact ⟨none, 0, rfl, OV.nil_, HB.out⟩
end Go.Proofs.Ytkdnnoioejfpgaa
