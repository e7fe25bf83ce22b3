import Derived.Test.YtolifmpkillglaaDoorHn
import Derived.Test.YtolifmpkillglaaDoorJi
import Derived.Test.YtolifmpkillglaaDoorIp
import Derived.Test.YtolifmpkillglaaDoorIq
set_option linter.unusedVariables false
set_option maxRecDepth 100000
namespace Go.Proofs.YtolifmpkillglaaDoor
open Go.RowKit
/-! The document's Pools. -/
theorem pk_ways2 (k : Nat) (a : Int) : (((k : Int) == 8) = true ∧ poolK k a = 1) ∨ (((k : Int) == 8) = false ∧ ((k : Int) == 9) = true ∧ poolK k a = 2) ∨
    (((k : Int) == 8) = false ∧ ((k : Int) == 9) = false ∧ ((k : Int) == 11) = true ∧ (a == 0) = true ∧ poolK k a = 2) ∨ (((k : Int) == 8) = false ∧ ((k : Int) == 9) = false ∧ ((k : Int) == 11) = true ∧ (a == 0) = false ∧ (a == 7) = true ∧ poolK k a = 2) ∨
    (((k : Int) == 8) = false ∧ ((k : Int) == 9) = false ∧ ((k : Int) == 11) = true ∧ (a == 0) = false ∧ (a == 7) = false ∧ poolK k a = 0) ∨ (((k : Int) == 8) = false ∧ ((k : Int) == 9) = false ∧ ((k : Int) == 11) = false ∧ poolK k a = 0) := by
  have n8 : ∀ j : Nat, ¬ k = j → ((k : Int) == (j : Int)) = false := fun j h => beq_eq_false_iff_ne.2 (by omega)
  unfold poolK
  by_cases h8 : k = 8
  · subst h8
    exact .inl ⟨by decide, by rw [if_pos rfl]⟩
  · by_cases h9 : k = 9
    · subst h9
      exact .inr (.inl ⟨by decide, by decide, by rw [if_neg (by decide), if_pos rfl]⟩)
    · by_cases h11 : k = 11
      · subst h11
        by_cases a0 : a = 0
        · exact .inr (.inr (.inl ⟨by decide, by decide, by decide, by simpa using a0, by rw [if_neg (by decide), if_neg (by decide), if_pos ⟨rfl, .inl a0⟩]⟩))
        · by_cases a7 : a = 7
          · exact .inr (.inr (.inr (.inl ⟨by decide, by decide, by decide, by simpa using a0, by simpa using a7, by rw [if_neg (by decide), if_neg (by decide), if_pos ⟨rfl, .inr a7⟩]⟩)))
          · exact .inr (.inr (.inr (.inr (.inl ⟨by decide, by decide, by decide, by simpa using a0, by simpa using a7, by rw [if_neg (by decide), if_neg (by decide), if_neg (fun h => by rcases h.2 with h | h; exact a0 h; exact a7 h)]⟩))))
      · exact .inr (.inr (.inr (.inr (.inr ⟨n8 8 h8, n8 9 h9, n8 11 h11, by rw [if_neg h8, if_neg h9, if_neg (fun h => h11 h.1)]⟩))))
set_option maxHeartbeats 2000000 in
theorem refpools_any (l : List Int) (hrg : rng l) : PoolsSaid 8 l (poolsC l) := by
  intro w B A n c T hr hn hc hB
  have HA := Lib.hid (refread_any l w B A n c T hr hn hc hB)
  have HT := Lib.hid T
  have hlen := readC_len l hrg
  by_cases he : (readC l).1 = 0
  · have hP : poolsC l = (0, poolL (readC l).2) := by unfold poolsC; rw [if_pos he]
    rw [hP]
    obtain ⟨hl2, hl0, hF, _⟩ := readC_inv l he
    have hat := readF_at l hrg _ _ _ hF
    rw [he] at HA
    generalize (readC l).2 = D at HA hlen hat ⊢
    have HAT := Lib.hid hat
    clear T hr hF hat hP he
    go_enter Tryd.func8, Tryd.ntmps8
    go_wp2_with fail
    refine HA.out.mono ?_
    rintro e w1 ⟨A1, c1, rs, rfl, hI, hb1⟩
    have HV := Lib.hid hI.iv
    have HB1w := Lib.hid hb1
    obtain ⟨N, hN⟩ : ∃ N, N = D.length := ⟨_, rfl⟩
    rw [← hN] at HV hlen ⊢
    have HN := Lib.hid hN
    clear hI hb1 HA hN
    go_wp2_with fail
    go_loopw [6, 7] (fun v i wr => ∃ (k d : Nat) (A' : Option Addr), k ≤ N ∧ i = .int .i64 k ∧ v = .slice A' (poolL (D.take k)).length d ∧ OV inR 3 wr (Lt w1.heap.size) A' (poolL (D.take k)).length d (poolL (D.take k)) ∧ Below w1.heap.size w1 wr) (fun _ i _ => N - (intOf i).toNat)
    case atStart => exact ⟨0, 0, none, Nat.zero_le _, rfl, rfl, OV.nil_, Below.refl _ _⟩
    case round =>
      obtain ⟨j, d, A', hk, rfl, rfl, hO, hb⟩ := hrel
      have i0 : (0 : Int) ≤ (j : Int) := by omega
      by_cases hlt : (j : Int) < (N : Int)
      · have V := HV.out.below hb (Nat.le_refl _)
        obtain ⟨b, o, hA, hbB, c0, c1, c2, c3, c4, c5, c6, c7, c8, c9⟩ := V.ten j (by omega)
        have R := (V.each j (by omega)).sc
        have hok := allok_getD (R := riR) V.rv.rg j
        have hkD : j < D.length := by have := HN.out; omega
        have hyes := poolL_yes D j hkD
        have hno := poolL_no D j hkD
        have hmem : D.getD j Ins.zero ∈ D := by
          rw [List.getD_eq_getElem?_getD, List.getElem?_eq_getElem hkD]
          exact List.getElem_mem _
        obtain ⟨na, hna, -, hna2⟩ := HAT.out _ hmem
        have hk2000 : (poolL (D.take j)).length ≤ 2000 := by have := poolL_len (D.take j); rw [List.length_take] at this; omega
        change ((rs.getD j RI.zero).sc).ok at hok
        generalize rs.getD j RI.zero = r at c0 c1 c2 c3 c4 c5 c6 c7 c8 c9 R hok
        generalize D.getD j Ins.zero = x at R hyes hno hna
        obtain ⟨⟨s0, s1, s2, s3, s4, s5, s6, s7⟩, tA, tn, tc, mA, mn, mc⟩ := r
        obtain ⟨sc, tab, mat⟩ := x
        simp only at R
        subst R
        have hop := hok.1
        simp only at c0 c1 c2 c3 c4 c5 c6 c7 c8 c9 hop hna
        unfold poolV poolO imO at hyes
        unfold poolO imO at hno
        simp only at hyes hno
        have HO1 := Lib.hid (refofC_any s1 hop.1 hop.2)
        obtain ⟨on, hon⟩ : ∃ on : Nat, s1 = on := ⟨s1.toNat, by omega⟩
        have hki := kI_lt2 on (by omega)
        rw [← hon] at hki
        rcases hof : ofC s1 with ⟨⟨x0, x1, x2, x3, x4, x5, x6⟩, er⟩
        rw [hof] at HO1 hki hyes hno
        unfold OfSaid at HO1
        simp only [Inf.val] at HO1
        simp only at hki hyes hno
        obtain ⟨k, hkk⟩ : ∃ k : Nat, x2.toNat = k := ⟨_, rfl⟩
        rw [hkk] at hki hyes hno
        obtain ⟨hx2, hk12⟩ := hki
        subst hx2
        have HYES := Lib.hid hyes
        have HNO := Lib.hid hno
        have HB := Lib.hid hb
        have hz := hb.size
        have hbs : b < wr.heap.size := by omega
        have HO := Lib.hid hO
        have HTT := Lib.hid (HT.out.below' (HB1w.out.trans (hb.mono HB1w.out.size)))
        have e1 : IntKind.i64.wrap (s0 + 1) = s0 + 1 := IntWalk.i64_in _ (by omega)
        have e2 : IntKind.i64.wrap (s0 + 2) = s0 + 2 := IntWalk.i64_in _ (by omega)
        have hs0 : 0 ≤ s0 := by omega
        have hs1 : s0 ≤ 2000 := by omega
        subst hA
        clear V hb hO hok hop hmem hna hna2 HAT hkD hof hon hkk hyes hno
        go_wp2_with fail
        refine (HO1.out _ HTT.out.tab).mono ?_
        rintro e w2 ⟨rfl, b2⟩
        have hz2 := b2.size
        have HI := Lib.hid (Blk.new w2 #[.int .u8 x0, .string ⟨x1.toArray⟩, .int .u8 k, .int .i64 x3, .int .i64 x4, .bool x5, .bool x6] 56)
        have HB3 := Lib.hid (b2.alloc hz2 (.cells #[.int .u8 x0, .string ⟨x1.toArray⟩, .int .u8 k, .int .i64 x3, .int .i64 x4, .bool x5, .bool x6] 56))
        have HO3 := Lib.hid ((HO.out.below b2).alloc (.cells #[.int .u8 x0, .string ⟨x1.toArray⟩, .int .u8 k, .int .i64 x3, .int .i64 x4, .bool x5, .bool x6] 56))
        clear b2
        go_upto_region 9 with (fail)
        generalize w2.alloc (.cells #[.int .u8 x0, .string ⟨x1.toArray⟩, .int .u8 k, .int .i64 x3, .int .i64 x4, .bool x5, .bool x6] 56) = w3 at HI HB3 HO3 ⊢
        have q2 : w3.cell? ⟨w2.heap.size, 2, none⟩ = some (.int .u8 k) := HI.out.cell 2
        have y0 : w3.cell? ⟨b, o + j * 10, none⟩ = some (.int .i64 s0) := (HB3.out.cell (p := ⟨b, o + j * 10, none⟩) hbs).trans c0
        have y2 : w3.cell? ⟨b, o + j * 10 + 2, none⟩ = some (.int .i64 s2) := (HB3.out.cell (p := ⟨b, o + j * 10 + 2, none⟩) hbs).trans c2
        have HBB := Lib.hid (HB.out.trans (HB3.out.mono hz))
        have hzz := HBB.out.size
        clear c0 c1 c2 c3 c4 c5 c6 c7 c8 c9 HB3
        rcases pk_ways2 k s2 with ⟨e8, hp⟩ | ⟨e8, e9, hp⟩ | ⟨e8, e9, e11, a0, hp⟩ | ⟨e8, e9, e11, a0, a7, hp⟩ | ⟨e8, e9, e11, a0, a7, hp⟩ | ⟨e8, e9, e11, hp⟩
        · have HE0 := HYES.out (by rw [hp]; decide)
          rw [hp, if_neg (by decide)] at HE0
          have HEL := Lib.hid (congrArg List.length HE0)
          have HE := Lib.hid HE0
          have HRV := Lib.hid (rv_int w3 (s0 + 1))
          clear hp HYES HNO HE0
          go_wp2_with (at_builtin; refine wpList_appV inFit rfl _ _ rfl (Lt w1.heap.size) A' _ d _ rfl (HO3.out.alloc _) _ _ 1 1 [s0 + 1] rfl HRV.out (poolL (D.take (j + 1))).length (by rw [HEL.out, List.length_append]; rfl) (poolL (D.take (j + 1))) HE.out (by omega) (fun q hq => by have : q < w1.heap.size := hq; simp; omega) ?_; intro A5 d5 w5 ho5 hb5)
          go_roundw
          case rel => exact ⟨j + 1, d5, A5, by omega, by go_num, rfl, ho5, (HBB.out.alloc hzz _).trans hb5.below'⟩
          case measure => simp [intOf]; omega
        · have HE0 := HYES.out (by rw [hp]; decide)
          rw [hp, if_neg (by decide)] at HE0
          have HEL := Lib.hid (congrArg List.length HE0)
          have HE := Lib.hid HE0
          have HRV := Lib.hid (rv_int w3 (s0 + 2))
          clear hp HYES HNO HE0
          go_wp2_with (at_builtin; refine wpList_appV inFit rfl _ _ rfl (Lt w1.heap.size) A' _ d _ rfl (HO3.out.alloc _) _ _ 1 1 [s0 + 2] rfl HRV.out (poolL (D.take (j + 1))).length (by rw [HEL.out, List.length_append]; rfl) (poolL (D.take (j + 1))) HE.out (by omega) (fun q hq => by have : q < w1.heap.size := hq; simp; omega) ?_; intro A5 d5 w5 ho5 hb5)
          go_roundw
          case rel => exact ⟨j + 1, d5, A5, by omega, by go_num, rfl, ho5, (HBB.out.alloc hzz _).trans hb5.below'⟩
          case measure => simp [intOf]; omega
        · have HE0 := HYES.out (by rw [hp]; decide)
          rw [hp, if_neg (by decide)] at HE0
          have HEL := Lib.hid (congrArg List.length HE0)
          have HE := Lib.hid HE0
          have HRV := Lib.hid (rv_int w3 (s0 + 2))
          clear hp HYES HNO HE0
          go_wp2_with (at_builtin; refine wpList_appV inFit rfl _ _ rfl (Lt w1.heap.size) A' _ d _ rfl (HO3.out.alloc _) _ _ 1 1 [s0 + 2] rfl HRV.out (poolL (D.take (j + 1))).length (by rw [HEL.out, List.length_append]; rfl) (poolL (D.take (j + 1))) HE.out (by omega) (fun q hq => by have : q < w1.heap.size := hq; simp; omega) ?_; intro A5 d5 w5 ho5 hb5)
          go_roundw
          case rel => exact ⟨j + 1, d5, A5, by omega, by go_num, rfl, ho5, (HBB.out.alloc hzz _).trans hb5.below'⟩
          case measure => simp [intOf]; omega
        · have HE0 := HYES.out (by rw [hp]; decide)
          rw [hp, if_neg (by decide)] at HE0
          have HEL := Lib.hid (congrArg List.length HE0)
          have HE := Lib.hid HE0
          have HRV := Lib.hid (rv_int w3 (s0 + 2))
          clear hp HYES HNO HE0
          go_wp2_with (at_builtin; refine wpList_appV inFit rfl _ _ rfl (Lt w1.heap.size) A' _ d _ rfl (HO3.out.alloc _) _ _ 1 1 [s0 + 2] rfl HRV.out (poolL (D.take (j + 1))).length (by rw [HEL.out, List.length_append]; rfl) (poolL (D.take (j + 1))) HE.out (by omega) (fun q hq => by have : q < w1.heap.size := hq; simp; omega) ?_; intro A5 d5 w5 ho5 hb5)
          go_roundw
          case rel => exact ⟨j + 1, d5, A5, by omega, by go_num, rfl, ho5, (HBB.out.alloc hzz _).trans hb5.below'⟩
          case measure => simp [intOf]; omega
        · have HE := Lib.hid (HNO.out (by rw [hp]; decide))
          clear hp HYES HNO
          go_wp2_with fail
          go_roundw
          case rel => exact ⟨j + 1, d, A', by omega, by go_num, by rw [HE.out], by rw [HE.out]; exact HO3.out, HBB.out⟩
          case measure => simp [intOf]; omega
        · have HE := Lib.hid (HNO.out (by rw [hp]; decide))
          clear hp HYES HNO
          go_wp2_with fail
          go_roundw
          case rel => exact ⟨j + 1, d, A', by omega, by go_num, by rw [HE.out], by rw [HE.out]; exact HO3.out, HBB.out⟩
          case measure => simp [intOf]; omega
      · obtain rfl : j = N := by omega
        have htk : D.take j = D := List.take_of_length_le (by have := HN.out; omega)
        rw [htk] at hO ⊢
        have HO := Lib.hid hO
        have HB := Lib.hid (HB1w.out.trans (hb.mono HB1w.out.size))
        clear hO hb htk
        go_wp2_with fail
        go_returns
        exact ⟨A', d, rfl, HO.out.less (fun q hq => Nat.lt_of_lt_of_le hq HB1w.out.size), HB.out⟩
  · have hP : poolsC l = ((readC l).1, []) := by unfold poolsC; rw [if_neg he]
    rw [hP]
    rw [readC_err l he] at HA
    have hne : ((readC l).1 != 0) = true := by simpa using he
    generalize (readC l).1 = E at HA hne ⊢
    clear T hr hP he hlen
    go_enter Tryd.func8, Tryd.ntmps8
    go_wp2_with fail
    refine HA.out.mono ?_
    rintro e w1 ⟨A1, c1, rs, rfl, -, hb1⟩
    go_wp2_with fail
    go_returns
    exact ⟨none, 0, rfl, OV.nil_, hb1⟩
/-! CodeReads: the walk. -/
set_option maxHeartbeats 2000000 in
theorem walk_creads (A : Option Addr) (n c : Nat) (l : List Int) (p : Int) (w : World) (T : TE w) (hf : n ≤ 140737488355328) (hn : n ≤ c) (hr : Rd w w.heap.size A n l) :
    Calls Tryd.prog 3 #[.slice A n c, .int .i64 p] w fun e w' => e = .returned (.bool true) ∧ Below w.heap.size w w' := by
  have hrg := hr.rg
  have HRD := Lib.hid hr
  have HT := Lib.hid T
  have P1 := Lib.hid (read_any l)
  have P2 := Lib.hid (refread_any l)
  have P3 := Lib.hid (pools_any l hrg)
  have P4 := Lib.hid (refpools_any l hrg)
  have hDl := readC_len l hrg
  have HRW := Lib.hid (readC_rows l hrg)
  have hPl : (poolsC l).2.length ≤ 2000 := by
    unfold poolsC
    split
    · exact Nat.le_trans (poolL_len _) hDl
    · simp
  generalize readC l = R at P1 P2 hDl HRW
  generalize poolsC l = Q at P3 P4 hPl
  obtain ⟨E, D⟩ := R
  obtain ⟨F, P⟩ := Q
  unfold ReadSaid at P1 P2
  unfold PoolsSaid at P3 P4
  simp only at P1 P2 P3 P4 hDl hPl HRW
  obtain ⟨N, hN⟩ : ∃ N, N = D.length := ⟨_, rfl⟩
  obtain ⟨NP, hNP⟩ : ∃ NP, NP = P.length := ⟨_, rfl⟩
  rw [← hN] at P1 P2 hDl
  rw [← hNP] at P3 P4 hPl
  clear T hr hN hNP
  go_enter Tryd.func3, Tryd.ntmps3
  go_wp2_with fail
  refine (P1.out w _ A n c HT.out HRD.out hn (by omega) (Nat.le_refl _)).mono ?_
  rintro e w1 ⟨A1, c1, rs1, rfl, hI1, hb1⟩
  have HV1 := Lib.hid hI1.iv
  have HB1 := Lib.hid hb1
  clear hI1 hb1
  go_wp2_with fail
  refine (P2.out w1 _ A n c (HT.out.below' HB1.out) (HRD.out.below HB1.out (Nat.le_refl _)) hn (by omega) HB1.out.size).mono ?_
  rintro e w2 ⟨A2, c2, rs2, rfl, hI2, hb2⟩
  have HV1 := Lib.hid (HV1.out.below hb2 (Nat.le_refl _))
  have HV2 := Lib.hid hI2.iv
  have HB2 := Lib.hid (HB1.out.trans (hb2.mono HB1.out.size))
  have hz1 := hb2.size
  clear hI2 hb2
  go_wp2_with fail
  refine (P3.out w2 _ A n c (HT.out.below' HB2.out) (HRD.out.below HB2.out (Nat.le_refl _)) hn (by omega) HB2.out.size).mono ?_
  rintro e w3 ⟨A3, c3, rfl, hO3, hb3⟩
  have HV1 := Lib.hid (HV1.out.below hb3 hz1)
  have HV2 := Lib.hid (HV2.out.below hb3 (Nat.le_refl _))
  have HO3 := Lib.hid hO3
  have HB3 := Lib.hid (HB2.out.trans (hb3.mono HB2.out.size))
  have hz2 := hb3.size
  clear hO3 hb3
  go_wp2_with fail
  refine (P4.out w3 _ A n c (HT.out.below' HB3.out) (HRD.out.below HB3.out (Nat.le_refl _)) hn (by omega) HB3.out.size).mono ?_
  rintro e w4 ⟨A4, c4, rfl, hO4, hb4⟩
  have HV1 := Lib.hid (HV1.out.below hb4 (Nat.le_trans hz1 hz2))
  have HV2 := Lib.hid (HV2.out.below hb4 hz2)
  have HO3 := Lib.hid (HO3.out.below hb4).rv
  have HO4 := Lib.hid hO4.rv
  have HB4 := Lib.hid (HB3.out.trans (hb4.mono HB3.out.size))
  have hz3 := hb4.size
  clear hO4 hb4 P1 P2 P3 P4
  go_wp2_with fail
  refine (instrs_eq D w4 A1 A2 N c1 c2 _ _ rs1 rs2 HV1.out HV2.out (by omega) (by omega) (by omega) (IV.rows HV1.out HRW.out)).mono ?_
  rintro e w5 ⟨rfl, hb5⟩
  have HV1 := Lib.hid (HV1.out.below hb5 (by omega))
  have HV2 := Lib.hid (HV2.out.below hb5 (by omega))
  have HO3 := Lib.hid (HO3.out.below hb5 (Nat.le_refl _))
  have HO4 := Lib.hid (HO4.out.below hb5 (Nat.le_refl _))
  have HB5 := Lib.hid (HB4.out.trans (hb5.mono HB4.out.size))
  have hz4 := hb5.size
  clear hb5
  go_wp2_with fail
  refine (ints_any A3 A4 NP NP c3 c4 _ _ P P w5 (by omega) (by omega) HO3.out HO4.out).mono ?_
  rw [decide_eq_true rfl]
  rintro e w6 ⟨rfl, q6, rfl⟩
  have HV1 := Lib.hid (HV1.out.drewN q6)
  have HV2 := Lib.hid (HV2.out.drewN q6)
  have HB6 := Lib.hid (below_drewN HB5.out q6)
  have hz5 : w5.heap.size ≤ (w5.drewN q6).heap.size := Nat.le_refl _
  clear HB5 HO3 HO4
  generalize w5.drewN q6 = w6 at HV1 HV2 HB6 hz5 ⊢
  go_wp2_with fail
  refine (at_of D p w6 A1 N c1 _ rs1 HV1.out (by omega) (by omega)).mono ?_
  rintro e w7 ⟨rfl, hb7⟩
  have HV2 := Lib.hid (HV2.out.below hb7 (by omega))
  have HB7 := Lib.hid (HB6.out.trans (hb7.mono HB6.out.size))
  clear hb7
  go_wp2_with fail
  refine (refat_any D p w7 A2 N c2 _ rs2 HV2.out (by omega)).mono ?_
  rintro e w8 ⟨rfl, q8, rfl⟩
  have HB8 := Lib.hid (below_drewN HB7.out q8)
  clear HB7
  generalize w7.drewN q8 = w8 at HB8 ⊢
  go_wp2_with fail
  refine (works_any _ (HT.out.below' HB8.out)).mono ?_
  rintro e w9 ⟨rfl, hb9⟩
  go_wp2_with fail
  go_returns
  exact ⟨rfl, HB8.out.trans (hb9.mono HB8.out.size)⟩
end Go.Proofs.YtolifmpkillglaaDoor
