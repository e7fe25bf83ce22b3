import Derived.Test.YtolifmpkillglaaDoorIt
import Derived.Test.YtolifmpkillglaaDoorIv
set_option linter.unusedVariables false
set_option maxRecDepth 100000
namespace Go.Proofs.YtolifmpkillglaaDoor
open Go.RowKit
theorem kI_lt2 : ∀ n : Nat, n < 256 → (ofC (n : Int)).1.imm = (((ofC (n : Int)).1.imm).toNat : Int) ∧ ((ofC (n : Int)).1.imm).toNat < 12 := by decide +kernel
/-! Places that name the pool. -/
def imO (o : Int) : Nat := ((ofC o).1.imm).toNat
/-- The place within an instruction; 0: it names nothing. -/
def poolK (k : Nat) (a : Int) : Int := if k = 8 then 1 else if k = 9 then 2 else if k = 11 ∧ (a = 0 ∨ a = 7) then 2 else 0
def poolO (x : Ins) : Int := poolK (imO x.sc.op) x.sc.a
theorem byclass_any (a : Int) (w : World) : Calls Tryd.prog 44 #[.int .i64 a] w fun e w' => e = .returned (.bool (decide (a = 0) || decide (a = 7))) ∧ w = w' := by
  by_cases h0 : a = 0
  · subst h0
    go_enter Tryd.func44, Tryd.ntmps44
    go_wp2
    go_returns
    exact ⟨rfl, rfl⟩
  · by_cases h7 : a = 7
    · subst h7
      go_enter Tryd.func44, Tryd.ntmps44
      go_wp2
      go_returns
      exact ⟨rfl, rfl⟩
    · have b0 : (a == 0) = false := by simpa using h0
      have b7 : (a == 7) = false := by simpa using h7
      rw [decide_eq_false h0, decide_eq_false h7]
      go_enter Tryd.func44, Tryd.ntmps44
      go_wp2
      go_returns
      exact ⟨rfl, rfl⟩
def poolV (x : Ins) : Int := if poolO x = 0 then 0 else x.sc.at_ + poolO x
theorem pk_ways (k : Nat) (a : Int) : (((k : Int) == 11) = false ∧ ((k : Int) == 9) = false ∧ ((k : Int) == 8) = true ∧ poolK k a = 1) ∨ (((k : Int) == 11) = false ∧ ((k : Int) == 9) = true ∧ poolK k a = 2) ∨
    (((k : Int) == 11) = true ∧ (decide (a = 0) || decide (a = 7)) = true ∧ poolK k a = 2) ∨ (((k : Int) == 11) = true ∧ (decide (a = 0) || decide (a = 7)) = false ∧ poolK k a = 0) ∨ (((k : Int) == 11) = false ∧ ((k : Int) == 9) = false ∧ ((k : Int) == 8) = false ∧ poolK k a = 0) := by
  have n8 : ∀ j : Nat, ¬ k = j → ((k : Int) == (j : Int)) = false := fun j h => beq_eq_false_iff_ne.2 (by omega)
  unfold poolK
  by_cases h8 : k = 8
  · subst h8
    exact .inl ⟨by decide, by decide, by decide, by rw [if_pos rfl]⟩
  · by_cases h9 : k = 9
    · subst h9
      exact .inr (.inl ⟨by decide, by decide, by rw [if_neg (by decide), if_pos rfl]⟩)
    · by_cases h11 : k = 11
      · subst h11
        by_cases ha : a = 0 ∨ a = 7
        · exact .inr (.inr (.inl ⟨by decide, by simpa using ha, by rw [if_neg (by decide), if_neg (by decide), if_pos ⟨rfl, ha⟩]⟩))
        · exact .inr (.inr (.inr (.inl ⟨by decide, by simpa using ha, by rw [if_neg (by decide), if_neg (by decide), if_neg (fun h => ha h.2)]⟩)))
      · exact .inr (.inr (.inr (.inr ⟨n8 11 h11, n8 9 h9, n8 8 h8, by rw [if_neg h8, if_neg h9, if_neg (fun h => h11 h.1)]⟩)))
set_option maxHeartbeats 2000000 in
theorem poolat_any (x : Ins) (r : RI) (w : World) (T : Tab w) (hsc : r.sc = x.sc) (o0 : 0 ≤ x.sc.op) (o1 : x.sc.op < 256) (a0 : 0 ≤ x.sc.at_) (a1 : x.sc.at_ ≤ 100000) :
    Calls Tryd.prog 24 #[r.val] w fun e w' => e = .returned (.tuple #[.int .i64 (poolV x), .bool (decide (poolO x ≠ 0))]) ∧ Below w.heap.size w w' := by
  obtain ⟨⟨s0, s1, s2, s3, s4, s5, s6, s7⟩, tA, tn, tc, mA, mn, mc⟩ := r
  obtain ⟨sc, tab, mat⟩ := x
  simp only at hsc
  subst hsc
  unfold poolV poolO imO RI.val
  simp only at o0 o1 a0 a1 ⊢
  have HO := Lib.hid (of_any s1 o0 o1)
  obtain ⟨on, hon⟩ : ∃ on : Nat, s1 = on := ⟨s1.toNat, by omega⟩
  have hki := kI_lt2 on (by omega)
  rw [← hon] at hki
  rcases hof : ofC s1 with ⟨⟨x0, x1, x2, x3, x4, x5, x6⟩, er⟩
  rw [hof] at HO hki
  unfold OfSaid at HO
  simp only [Inf.val] at HO
  simp only at hki ⊢
  obtain ⟨k, hk⟩ : ∃ k : Nat, x2.toNat = k := ⟨_, rfl⟩
  rw [hk] at hki ⊢
  obtain ⟨hx2, hk12⟩ := hki
  subst hx2
  clear hof hon hk
  have HT := Lib.hid (T.alloc (.cells #[.int .i64 s0, .int .u8 s1, .int .i64 s2, .int .u8 s3, .int .u16 s4, .int .i64 s5, .int .i64 s6, .slice tA tn tc, .slice mA mn mc, .int .u16 s7] 40))
  have HY := Lib.hid (Blk.new w #[.int .i64 s0, .int .u8 s1, .int .i64 s2, .int .u8 s3, .int .u16 s4, .int .i64 s5, .int .i64 s6, .slice tA tn tc, .slice mA mn mc, .int .u16 s7] 40)
  have HK := Lib.hid (below_new w (.cells #[.int .i64 s0, .int .u8 s1, .int .i64 s2, .int .u8 s3, .int .u16 s4, .int .i64 s5, .int .i64 s6, .slice tA tn tc, .slice mA mn mc, .int .u16 s7] 40))
  have hsz : (w.alloc (.cells #[.int .i64 s0, .int .u8 s1, .int .i64 s2, .int .u8 s3, .int .u16 s4, .int .i64 s5, .int .i64 s6, .slice tA tn tc, .slice mA mn mc, .int .u16 s7] 40)).heap.size = w.heap.size + 1 := by simp
  clear T
  have HBC := Lib.hid (byclass_any s2)
  have hw1 : IntKind.i64.wrap (s0 + 1) = s0 + 1 := IntWalk.i64_in _ (by omega)
  have hw2 : IntKind.i64.wrap (s0 + 1 + 1) = s0 + 1 + 1 := IntWalk.i64_in _ (by omega)
  have HRES := Lib.hid (show s0 + 1 + 1 = s0 + 2 by omega)
  rcases pk_ways k s2 with ⟨e11, e9, e8, hp⟩ | ⟨e11, e9, hp⟩ | ⟨e11, hb, hp⟩ | ⟨e11, hb, hp⟩ | ⟨e11, e9, e8, hp⟩
  all_goals
    try rw [hb] at HBC
    try clear hb
    rw [hp]
    clear hp
    go_enter Tryd.func24, Tryd.ntmps24
    go_upto_region 1 with (fail)
    generalize w.alloc (.cells #[.int .i64 s0, .int .u8 s1, .int .i64 s2, .int .u8 s3, .int .u16 s4, .int .i64 s5, .int .i64 s6, .slice tA tn tc, .slice mA mn mc, .int .u16 s7] 40) = w1 at HT HY HK hsz ⊢
    have y1 : w1.cell? ⟨w.heap.size, 1, none⟩ = some (.int .u8 s1) := HY.out.cell 1
    go_wp2_with fail
    refine (HO.out _ HT.out).mono ?_
    rintro e w2 ⟨rfl, b2⟩
    have hz2 := b2.size
    have HY := Lib.hid ((HY.out.below b2).alloc (.cells #[.int .u8 x0, .string ⟨x1.toArray⟩, .int .u8 k, .int .i64 x3, .int .i64 x4, .bool x5, .bool x6] 56))
    have HK := Lib.hid ((HK.out.trans (b2.mono (by omega))).alloc (by omega) (.cells #[.int .u8 x0, .string ⟨x1.toArray⟩, .int .u8 k, .int .i64 x3, .int .i64 x4, .bool x5, .bool x6] 56))
    have HI := Lib.hid (Blk.new w2 #[.int .u8 x0, .string ⟨x1.toArray⟩, .int .u8 k, .int .i64 x3, .int .i64 x4, .bool x5, .bool x6] 56)
    clear b2 y1 HT
    go_upto_region 2 with (fail)
    generalize w2.alloc (.cells #[.int .u8 x0, .string ⟨x1.toArray⟩, .int .u8 k, .int .i64 x3, .int .i64 x4, .bool x5, .bool x6] 56) = w3 at HY HK HI ⊢
    have q2 : w3.cell? ⟨w2.heap.size, 2, none⟩ = some (.int .u8 k) := HI.out.cell 2
    have y0 : w3.cell? ⟨w.heap.size, 0, none⟩ = some (.int .i64 s0) := HY.out.cell 0
    have y2 : w3.cell? ⟨w.heap.size, 2, none⟩ = some (.int .i64 s2) := HY.out.cell 2
    go_wp2_with ((refine (HBC.out _).mono ?_); rintro e w4 ⟨rfl, rfl⟩)
    go_returns
    exact ⟨by first | rfl | exact congrArg (fun z => Ending.returned (.tuple #[.int .i64 z, .bool true])) HRES.out, HK.out⟩
/-! Pools. -/
def poolL (D : List Ins) : List Int := (D.filter (fun x => decide (poolO x ≠ 0))).map poolV
theorem poolL_len (D : List Ins) : (poolL D).length ≤ D.length := by unfold poolL; rw [List.length_map]; exact List.length_filter_le _ _
theorem poolL_yes (D : List Ins) (k : Nat) (hk : k < D.length) (h : decide (poolO (D.getD k Ins.zero) ≠ 0) = true) : poolL (D.take (k + 1)) = poolL (D.take k) ++ [poolV (D.getD k Ins.zero)] := by
  rw [List.getD_eq_getElem?_getD, List.getElem?_eq_getElem hk] at h ⊢
  have h2 : decide (poolO D[k] ≠ 0) = true := h
  unfold poolL
  rw [List.take_succ_eq_append_getElem hk, List.filter_append, List.map_append, List.filter_cons, h2]
  rfl
theorem poolL_no (D : List Ins) (k : Nat) (hk : k < D.length) (h : decide (poolO (D.getD k Ins.zero) ≠ 0) = false) : poolL (D.take (k + 1)) = poolL (D.take k) := by
  rw [List.getD_eq_getElem?_getD, List.getElem?_eq_getElem hk] at h
  have h2 : decide (poolO D[k] ≠ 0) = false := h
  unfold poolL
  rw [List.take_succ_eq_append_getElem hk, List.filter_append, List.map_append, List.filter_cons, h2]
  simp
def poolsC (l : List Int) : Int × List Int := if (readC l).1 = 0 then (0, poolL (readC l).2) else ((readC l).1, [])
def PoolsSaid (f : Nat) (l : List Int) (R : Int × List Int) : Prop := ∀ (w : World) (B : Nat) (A : Option Addr) (n c : Nat), TE w → Rd w B A n l → n ≤ c → n ≤ 281474976710656 → B ≤ w.heap.size →
  Calls Tryd.prog f #[.slice A n c] w fun e w' => ∃ A' c', e = .returned (.tuple #[.slice A' R.2.length c', .int .i64 R.1]) ∧ OV inR 3 w' (Lt w.heap.size) A' R.2.length c' R.2 ∧ Below w.heap.size w w'
set_option maxHeartbeats 2000000 in
theorem pools_any (l : List Int) (hrg : rng l) : PoolsSaid 7 l (poolsC l) := by
  intro w B A n c T hr hn hc hB
  have HA := Lib.hid (read_any l w B A n c T hr hn hc hB)
  have HT := Lib.hid T
  have hlen := readC_len l hrg
  by_cases he : (readC l).1 = 0
  · have hP : poolsC l = (0, poolL (readC l).2) := by unfold poolsC; rw [if_pos he]
    rw [hP]
    obtain ⟨hl2, hl0, hF, _⟩ := readC_inv l he
    have hat := readF_at l hrg _ _ _ hF
    rw [he] at HA
    generalize (readC l).2 = D at HA hlen hat ⊢
    have HAT := Lib.hid hat
    clear T hr hF hat hP he
    go_enter Tryd.func7, Tryd.ntmps7
    go_wp2_with fail
    refine HA.out.mono ?_
    rintro e w1 ⟨A1, c1, rs, rfl, hI, hb1⟩
    have HV := Lib.hid hI.iv
    have HB1w := Lib.hid hb1
    obtain ⟨N, hN⟩ : ∃ N, N = D.length := ⟨_, rfl⟩
    rw [← hN] at HV hlen ⊢
    have HN := Lib.hid hN
    clear hI hb1 HA hN
    go_wp2_with fail
    go_loopw [6, 21] (fun v i wr => ∃ (k d : Nat) (A' : Option Addr), k ≤ N ∧ i = .int .i64 k ∧ v = .slice A' (poolL (D.take k)).length d ∧ OV inR 3 wr (Lt w1.heap.size) A' (poolL (D.take k)).length d (poolL (D.take k)) ∧ Below w1.heap.size w1 wr ∧ True) (fun _ i _ => N - (intOf i).toNat)
    case atStart => exact ⟨0, 0, none, Nat.zero_le _, rfl, rfl, OV.nil_, Below.refl _ _, trivial⟩
    case round =>
      obtain ⟨k, d, A', hk, rfl, rfl, hO, hb, -⟩ := hrel
      have i0 : (0 : Int) ≤ (k : Int) := by omega
      by_cases hlt : (k : Int) < (N : Int)
      · have V := HV.out.below hb (Nat.le_refl _)
        obtain ⟨b, o, hA, hbB, c0, c1, c2, c3, c4, c5, c6, c7, c8, c9⟩ := V.ten k (by omega)
        have R := (V.each k (by omega)).sc
        have hok := allok_getD (R := riR) V.rv.rg k
        have hkD : k < D.length := by have := HN.out; omega
        have hyes := poolL_yes D k hkD
        have hno := poolL_no D k hkD
        have hmem : D.getD k Ins.zero ∈ D := by
          rw [List.getD_eq_getElem?_getD, List.getElem?_eq_getElem hkD]
          exact List.getElem_mem _
        obtain ⟨na, hna, -, hna2⟩ := HAT.out _ hmem
        have hk2000 : (poolL (D.take k)).length ≤ 2000 := by have := poolL_len (D.take k); rw [List.length_take] at this; omega
        change ((rs.getD k RI.zero).sc).ok at hok
        generalize rs.getD k RI.zero = r at c0 c1 c2 c3 c4 c5 c6 c7 c8 c9 R hok
        generalize D.getD k Ins.zero = x at R hyes hno hna
        obtain ⟨⟨s0, s1, s2, s3, s4, s5, s6, s7⟩, tA, tn, tc, mA, mn, mc⟩ := r
        have hop := hok.1
        simp only at c0 c1 c2 c3 c4 c5 c6 c7 c8 c9 hop
        have HPA := Lib.hid (fun W (T : Tab W) => poolat_any x ⟨⟨s0, s1, s2, s3, s4, s5, s6, s7⟩, tA, tn, tc, mA, mn, mc⟩ W T R (by rw [← R]; exact hop.1) (by rw [← R]; exact hop.2) (by omega) (by omega))
        rw [RI.val_eq] at HPA
        have HB := Lib.hid hb
        have hz := hb.size
        have hbs : b < wr.heap.size := by omega
        have HO := Lib.hid (hO.alloc (.cells #[.int .i64 s0, .int .u8 s1, .int .i64 s2, .int .u8 s3, .int .u16 s4, .int .i64 s5, .int .i64 s6, .slice tA tn tc, .slice mA mn mc, .int .u16 s7] 40))
        have hz1 : (wr.alloc (.cells #[.int .i64 s0, .int .u8 s1, .int .i64 s2, .int .u8 s3, .int .u16 s4, .int .i64 s5, .int .i64 s6, .slice tA tn tc, .slice mA mn mc, .int .u16 s7] 40)).heap.size = wr.heap.size + 1 := by simp
        have HX := Lib.hid (Blk.new wr #[.int .i64 s0, .int .u8 s1, .int .i64 s2, .int .u8 s3, .int .u16 s4, .int .i64 s5, .int .i64 s6, .slice tA tn tc, .slice mA mn mc, .int .u16 s7] 40)
        have HB1 := Lib.hid (below_new wr (.cells #[.int .i64 s0, .int .u8 s1, .int .i64 s2, .int .u8 s3, .int .u16 s4, .int .i64 s5, .int .i64 s6, .slice tA tn tc, .slice mA mn mc, .int .u16 s7] 40))
        subst hA
        clear V hb hO R hok hop hmem hna hna2 HAT hkD
        go_upto_region 8 with (fail)
        clear c0 c1 c2 c3 c4 c5 c6 c7 c8 c9
        generalize wr.alloc (.cells #[.int .i64 s0, .int .u8 s1, .int .i64 s2, .int .u8 s3, .int .u16 s4, .int .i64 s5, .int .i64 s6, .slice tA tn tc, .slice mA mn mc, .int .u16 s7] 40) = w3 at HX HO HB1 hz1 ⊢
        have HTT := Lib.hid (HT.out.below' (HB1w.out.trans ((HB.out.trans (HB1.out.mono hz)).mono HB1w.out.size)))
        go_wp2_with ((with_reducible refine wpList_ldI rfl (.tmp 8) rfl HX.out ?_ ?_ ?_); exact rfl; exact rfl)
        refine (HPA.out _ HTT.out.tab).mono ?_
        rintro e w4 ⟨rfl, b4⟩
        have hz4 := b4.size
        have HO := Lib.hid (HO.out.below b4)
        have HB4 := Lib.hid (HB.out.trans ((HB1.out.trans (b4.mono (by omega))).mono hz))
        clear b4 HX HB1 HPA HTT
        cases hp : decide (poolO x ≠ 0)
        · have HE := Lib.hid (hno hp)
          clear hyes hno hp
          go_wp2_with fail
          go_roundw
          case rel => exact ⟨k + 1, d, A', by omega, by go_num, by rw [HE.out], by rw [HE.out]; exact HO.out, HB4.out, trivial⟩
          case measure => simp [intOf]; omega
        · have HE := Lib.hid (hyes hp)
          have HEL := Lib.hid (congrArg List.length (hyes hp))
          have HRV := Lib.hid (rv_int w4 (poolV x))
          generalize poolV x = pv at HE HEL HRV ⊢
          clear hyes hno hp
          have hzz := HB4.out.size
          have hz0 := HB1w.out.size
          go_wp2_with (at_builtin; refine wpList_appV inFit rfl _ _ rfl (Lt w1.heap.size) A' _ d _ rfl (HO.out.alloc _) _ _ 1 1 [pv] rfl HRV.out (poolL (D.take (k + 1))).length (by rw [HEL.out, List.length_append]; rfl) (poolL (D.take (k + 1))) HE.out (by omega) (fun q hq => by have : q < w1.heap.size := hq; simp; omega) ?_; intro A5 d5 w5 ho5 hb5)
          go_roundw
          case rel => exact ⟨k + 1, d5, A5, by omega, by go_num, rfl, ho5, (HB4.out.alloc hzz _).trans hb5.below', trivial⟩
          case measure => simp [intOf]; omega
      · obtain rfl : k = N := by omega
        have htk : D.take k = D := List.take_of_length_le (by have := HN.out; omega)
        rw [htk] at hO ⊢
        have HO := Lib.hid hO
        have HB := Lib.hid (HB1w.out.trans (hb.mono HB1w.out.size))
        clear hO hb htk
        go_wp2_with fail
        go_returns
        exact ⟨A', d, rfl, HO.out.less (fun q hq => Nat.lt_of_lt_of_le hq HB1w.out.size), HB.out⟩
  · have hP : poolsC l = ((readC l).1, []) := by unfold poolsC; rw [if_neg he]
    rw [hP]
    rw [readC_err l he] at HA
    have hne : ((readC l).1 != 0) = true := by simpa using he
    generalize (readC l).1 = E at HA hne ⊢
    clear T hr hP he hlen
    go_enter Tryd.func7, Tryd.ntmps7
    go_wp2_with fail
    refine HA.out.mono ?_
    rintro e w1 ⟨A1, c1, rs, rfl, -, hb1⟩
    go_wp2_with fail
    go_returns
    exact ⟨none, 0, rfl, OV.nil_, hb1⟩
end Go.Proofs.YtolifmpkillglaaDoor
