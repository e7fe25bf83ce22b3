import Derived.Test.YtolifmpkillglaaDoorJe
import Derived.Test.YtolifmpkillglaaDoorJc
import Derived.Test.YtolifmpkillglaaDoorIt
import Derived.Test.YtolifmpkillglaaDoorIv
import Derived.Test.YtolifmpkillglaaDoorJg
import Derived.Test.YtolifmpkillglaaDoorIp
import Derived.Test.YtolifmpkillglaaDoorDi
set_option linter.unusedVariables false
set_option maxRecDepth 100000
namespace Go.Proofs.YtolifmpkillglaaDoor
open Go.RowKit
/-! Places that name the pool. -/
def imO (o : Int) : Nat := ((ofC o).1.imm).toNat
/-- The place within an instruction; 0: it names nothing. -/
def poolK (k : Nat) (a : Int) : Int := if k = 8 then 1 else if k = 9 then 2 else if k = 11 ∧ (a = 0 ∨ a = 7) then 2 else 0
def poolO (x : Ins) : Int := poolK (imO x.sc.op) x.sc.a
theorem byclass_any (a : Int) (w : World) : Calls Tryd.prog 44 #[.int .i64 a] w fun e w' => e = .returned (.bool (decide (a = 0) || decide (a = 7))) ∧ w = w' := by
  by_cases h0 : a = 0
  · subst h0
    go_enter Tryd.func44, Tryd.ntmps44
    go_wp2
    go_returns
    exact ⟨rfl, rfl⟩
  · by_cases h7 : a = 7
    · subst h7
      go_enter Tryd.func44, Tryd.ntmps44
      go_wp2
      go_returns
      exact ⟨rfl, rfl⟩
    · have b0 : (a == 0) = false := by simpa using h0
      have b7 : (a == 7) = false := by simpa using h7
      rw [decide_eq_false h0, decide_eq_false h7]
      go_enter Tryd.func44, Tryd.ntmps44
      go_wp2
      go_returns
      exact ⟨rfl, rfl⟩
def poolV (x : Ins) : Int := if poolO x = 0 then 0 else x.sc.at_ + poolO x
theorem pk_ways (k : Nat) (a : Int) : (((k : Int) == 11) = false ∧ ((k : Int) == 9) = false ∧ ((k : Int) == 8) = true ∧ poolK k a = 1) ∨ (((k : Int) == 11) = false ∧ ((k : Int) == 9) = true ∧ poolK k a = 2) ∨
    (((k : Int) == 11) = true ∧ (decide (a = 0) || decide (a = 7)) = true ∧ poolK k a = 2) ∨ (((k : Int) == 11) = true ∧ (decide (a = 0) || decide (a = 7)) = false ∧ poolK k a = 0) ∨ (((k : Int) == 11) = false ∧ ((k : Int) == 9) = false ∧ ((k : Int) == 8) = false ∧ poolK k a = 0) := by
  have n8 : ∀ j : Nat, ¬ k = j → ((k : Int) == (j : Int)) = false := fun j h => beq_eq_false_iff_ne.2 (by omega)
  unfold poolK
  by_cases h8 : k = 8
  · subst h8
    exact .inl ⟨by decide, by decide, by decide, by rw [if_pos rfl]⟩
  · by_cases h9 : k = 9
    · subst h9
      exact .inr (.inl ⟨by decide, by decide, by rw [if_neg (by decide), if_pos rfl]⟩)
    · by_cases h11 : k = 11
      · subst h11
        by_cases ha : a = 0 ∨ a = 7
        · exact .inr (.inr (.inl ⟨by decide, by simpa using ha, by rw [if_neg (by decide), if_neg (by decide), if_pos ⟨rfl, ha⟩]⟩))
        · exact .inr (.inr (.inr (.inl ⟨by decide, by simpa using ha, by rw [if_neg (by decide), if_neg (by decide), if_neg (fun h => ha h.2)]⟩)))
      · exact .inr (.inr (.inr (.inr ⟨n8 11 h11, n8 9 h9, n8 8 h8, by rw [if_neg h8, if_neg h9, if_neg (fun h => h11 h.1)]⟩)))
set_option maxHeartbeats 2000000 in
theorem poolat_any (x : Ins) (r : RI) (w : World) (T : Tab w) (hsc : r.sc = x.sc) (o0 : 0 ≤ x.sc.op) (o1 : x.sc.op < 256) (a0 : 0 ≤ x.sc.at_) (a1 : x.sc.at_ ≤ 100000) :
    Calls Tryd.prog 24 #[r.val] w fun e w' => e = .returned (.tuple #[.int .i64 (poolV x), .bool (decide (poolO x ≠ 0))]) ∧ Below w.heap.size w w' := by
  obtain ⟨⟨s0, s1, s2, s3, s4, s5, s6, s7⟩, tA, tn, tc, mA, mn, mc⟩ := r
  obtain ⟨sc, tab, mat⟩ := x
  simp only at hsc
  subst hsc
  unfold poolV poolO imO RI.val
  simp only at o0 o1 a0 a1 ⊢
  have HO := Lib.hid (of_any s1 o0 o1)
  obtain ⟨on, hon⟩ : ∃ on : Nat, s1 = on := ⟨s1.toNat, by omega⟩
  have hki := kI_lt on (by omega)
  rw [← hon] at hki
  rcases hof : ofC s1 with ⟨⟨x0, x1, x2, x3, x4, x5, x6⟩, er⟩
  rw [hof] at HO hki
  unfold OfSaid at HO
  simp only [Inf.val] at HO
  simp only at hki ⊢
  obtain ⟨k, hk⟩ : ∃ k : Nat, x2.toNat = k := ⟨_, rfl⟩
  rw [hk] at hki ⊢
  obtain ⟨hx2, hk12⟩ := hki
  subst hx2
  clear hof hon hk
  have HT := Lib.hid (T.alloc (.cells #[.int .i64 s0, .int .u8 s1, .int .i64 s2, .int .u8 s3, .int .u16 s4, .int .i64 s5, .int .i64 s6, .slice tA tn tc, .slice mA mn mc, .int .u16 s7] 40))
  have HY := Lib.hid (Blk.new w #[.int .i64 s0, .int .u8 s1, .int .i64 s2, .int .u8 s3, .int .u16 s4, .int .i64 s5, .int .i64 s6, .slice tA tn tc, .slice mA mn mc, .int .u16 s7] 40)
  have HK := Lib.hid (below_new w (.cells #[.int .i64 s0, .int .u8 s1, .int .i64 s2, .int .u8 s3, .int .u16 s4, .int .i64 s5, .int .i64 s6, .slice tA tn tc, .slice mA mn mc, .int .u16 s7] 40))
  have hsz : (w.alloc (.cells #[.int .i64 s0, .int .u8 s1, .int .i64 s2, .int .u8 s3, .int .u16 s4, .int .i64 s5, .int .i64 s6, .slice tA tn tc, .slice mA mn mc, .int .u16 s7] 40)).heap.size = w.heap.size + 1 := by simp
  clear T
  have HBC := Lib.hid (byclass_any s2)
  have hw1 : IntKind.i64.wrap (s0 + 1) = s0 + 1 := IntWalk.i64_in _ (by omega)
  have hw2 : IntKind.i64.wrap (s0 + 1 + 1) = s0 + 1 + 1 := IntWalk.i64_in _ (by omega)
  have HRES := Lib.hid (show s0 + 1 + 1 = s0 + 2 by omega)
  rcases pk_ways k s2 with ⟨e11, e9, e8, hp⟩ | ⟨e11, e9, hp⟩ | ⟨e11, hb, hp⟩ | ⟨e11, hb, hp⟩ | ⟨e11, e9, e8, hp⟩
  all_goals
    try rw [hb] at HBC
    try clear hb
    rw [hp]
    clear hp
    go_enter Tryd.func24, Tryd.ntmps24
    go_upto_region 1 with (fail)
    generalize w.alloc (.cells #[.int .i64 s0, .int .u8 s1, .int .i64 s2, .int .u8 s3, .int .u16 s4, .int .i64 s5, .int .i64 s6, .slice tA tn tc, .slice mA mn mc, .int .u16 s7] 40) = w1 at HT HY HK hsz ⊢
    have y1 : w1.cell? ⟨w.heap.size, 1, none⟩ = some (.int .u8 s1) := HY.out.cell 1
    go_wp2_with fail
    refine (HO.out _ HT.out).mono ?_
    rintro e w2 ⟨rfl, b2⟩
    have hz2 := b2.size
    have HY := Lib.hid ((HY.out.below b2).alloc (.cells #[.int .u8 x0, .string ⟨x1.toArray⟩, .int .u8 k, .int .i64 x3, .int .i64 x4, .bool x5, .bool x6] 56))
    have HK := Lib.hid ((HK.out.trans (b2.mono (by omega))).alloc (by omega) (.cells #[.int .u8 x0, .string ⟨x1.toArray⟩, .int .u8 k, .int .i64 x3, .int .i64 x4, .bool x5, .bool x6] 56))
    have HI := Lib.hid (Blk.new w2 #[.int .u8 x0, .string ⟨x1.toArray⟩, .int .u8 k, .int .i64 x3, .int .i64 x4, .bool x5, .bool x6] 56)
    clear b2 y1 HT
    go_upto_region 2 with (fail)
    generalize w2.alloc (.cells #[.int .u8 x0, .string ⟨x1.toArray⟩, .int .u8 k, .int .i64 x3, .int .i64 x4, .bool x5, .bool x6] 56) = w3 at HY HK HI ⊢
    have q2 : w3.cell? ⟨w2.heap.size, 2, none⟩ = some (.int .u8 k) := HI.out.cell 2
    have y0 : w3.cell? ⟨w.heap.size, 0, none⟩ = some (.int .i64 s0) := HY.out.cell 0
    have y2 : w3.cell? ⟨w.heap.size, 2, none⟩ = some (.int .i64 s2) := HY.out.cell 2
    go_wp2_with ((refine (HBC.out _).mono ?_); rintro e w4 ⟨rfl, rfl⟩)
    go_returns
    exact ⟨by first | rfl | exact congrArg (fun z => Ending.returned (.tuple #[.int .i64 z, .bool true])) HRES.out, HK.out⟩
/-! Pools; Put of nothing. -/
def poolL (D : List Ins) : List Int := (D.filter (fun x => decide (poolO x ≠ 0))).map poolV
theorem poolL_len (D : List Ins) : (poolL D).length ≤ D.length := by unfold poolL; rw [List.length_map]; exact List.length_filter_le _ _
theorem poolL_yes (D : List Ins) (k : Nat) (hk : k < D.length) (h : decide (poolO (D.getD k Ins.zero) ≠ 0) = true) : poolL (D.take (k + 1)) = poolL (D.take k) ++ [poolV (D.getD k Ins.zero)] := by
  rw [List.getD_eq_getElem?_getD, List.getElem?_eq_getElem hk] at h ⊢
  have h2 : decide (poolO D[k] ≠ 0) = true := h
  unfold poolL
  rw [List.take_succ_eq_append_getElem hk, List.filter_append, List.map_append, List.filter_cons, h2]
  rfl
theorem poolL_no (D : List Ins) (k : Nat) (hk : k < D.length) (h : decide (poolO (D.getD k Ins.zero) ≠ 0) = false) : poolL (D.take (k + 1)) = poolL (D.take k) := by
  rw [List.getD_eq_getElem?_getD, List.getElem?_eq_getElem hk] at h
  have h2 : decide (poolO D[k] ≠ 0) = false := h
  unfold poolL
  rw [List.take_succ_eq_append_getElem hk, List.filter_append, List.map_append, List.filter_cons, h2]
  simp
def poolsC (l : List Int) : Int × List Int := if (readC l).1 = 0 then (0, poolL (readC l).2) else ((readC l).1, [])
def PoolsSaid (f : Nat) (l : List Int) (R : Int × List Int) : Prop := ∀ (w : World) (B : Nat) (A : Option Addr) (n c : Nat), TE w → Rd w B A n l → n ≤ c → n ≤ 281474976710656 → B ≤ w.heap.size →
  Calls Tryd.prog f #[.slice A n c] w fun e w' => ∃ A' c', e = .returned (.tuple #[.slice A' R.2.length c', .int .i64 R.1]) ∧ OV inR 3 w' (Lt w.heap.size) A' R.2.length c' R.2 ∧ Below w.heap.size w w'
set_option maxHeartbeats 2000000 in
theorem pools_any (l : List Int) (hrg : rng l) : PoolsSaid 7 l (poolsC l) := by
  intro w B A n c T hr hn hc hB
  have HA := Lib.hid (read_any l w B A n c T hr hn hc hB)
  have HT := Lib.hid T
  have hlen := readC_len l hrg
  by_cases he : (readC l).1 = 0
  · have hP : poolsC l = (0, poolL (readC l).2) := by unfold poolsC; rw [if_pos he]
    rw [hP]
    obtain ⟨hl2, hl0, hF, _⟩ := readC_inv l he
    have hat := readF_at l hrg _ _ _ hF
    rw [he] at HA
    generalize (readC l).2 = D at HA hlen hat ⊢
    have HAT := Lib.hid hat
    clear T hr hF hat hP he
    go_enter Tryd.func7, Tryd.ntmps7
    go_wp2_with fail
    refine HA.out.mono ?_
    rintro e w1 ⟨A1, c1, rs, rfl, hI, hb1⟩
    have HV := Lib.hid hI.iv
    have HB1w := Lib.hid hb1
    obtain ⟨N, hN⟩ : ∃ N, N = D.length := ⟨_, rfl⟩
    rw [← hN] at HV hlen ⊢
    have HN := Lib.hid hN
    clear hI hb1 HA hN
    go_wp2_with fail
    go_loopw [6, 21] (fun v i wr => ∃ (k d : Nat) (A' : Option Addr), k ≤ N ∧ i = .int .i64 k ∧ v = .slice A' (poolL (D.take k)).length d ∧ OV inR 3 wr (Lt w1.heap.size) A' (poolL (D.take k)).length d (poolL (D.take k)) ∧ Below w1.heap.size w1 wr ∧ True) (fun _ i _ => N - (intOf i).toNat)
    case atStart => exact ⟨0, 0, none, Nat.zero_le _, rfl, rfl, OV.nil_, Below.refl _ _, trivial⟩
    case round =>
      obtain ⟨k, d, A', hk, rfl, rfl, hO, hb, -⟩ := hrel
      have i0 : (0 : Int) ≤ (k : Int) := by omega
      by_cases hlt : (k : Int) < (N : Int)
      · have V := HV.out.below hb (Nat.le_refl _)
        obtain ⟨b, o, hA, hbB, c0, c1, c2, c3, c4, c5, c6, c7, c8, c9⟩ := V.ten k (by omega)
        have R := (V.each k (by omega)).sc
        have hok := allok_getD (R := riR) V.rv.rg k
        have hkD : k < D.length := by have := HN.out; omega
        have hyes := poolL_yes D k hkD
        have hno := poolL_no D k hkD
        have hmem : D.getD k Ins.zero ∈ D := by
          rw [List.getD_eq_getElem?_getD, List.getElem?_eq_getElem hkD]
          exact List.getElem_mem _
        obtain ⟨na, hna, -, hna2⟩ := HAT.out _ hmem
        have hk2000 : (poolL (D.take k)).length ≤ 2000 := by have := poolL_len (D.take k); rw [List.length_take] at this; omega
        change ((rs.getD k RI.zero).sc).ok at hok
        generalize rs.getD k RI.zero = r at c0 c1 c2 c3 c4 c5 c6 c7 c8 c9 R hok
        generalize D.getD k Ins.zero = x at R hyes hno hna
        obtain ⟨⟨s0, s1, s2, s3, s4, s5, s6, s7⟩, tA, tn, tc, mA, mn, mc⟩ := r
        have hop := hok.1
        simp only at c0 c1 c2 c3 c4 c5 c6 c7 c8 c9 hop
        have HPA := Lib.hid (fun W (T : Tab W) => poolat_any x ⟨⟨s0, s1, s2, s3, s4, s5, s6, s7⟩, tA, tn, tc, mA, mn, mc⟩ W T R (by rw [← R]; exact hop.1) (by rw [← R]; exact hop.2) (by omega) (by omega))
        rw [RI.val_eq] at HPA
        have HB := Lib.hid hb
        have hz := hb.size
        have hbs : b < wr.heap.size := by omega
        have HO := Lib.hid (hO.alloc (.cells #[.int .i64 s0, .int .u8 s1, .int .i64 s2, .int .u8 s3, .int .u16 s4, .int .i64 s5, .int .i64 s6, .slice tA tn tc, .slice mA mn mc, .int .u16 s7] 40))
        have hz1 : (wr.alloc (.cells #[.int .i64 s0, .int .u8 s1, .int .i64 s2, .int .u8 s3, .int .u16 s4, .int .i64 s5, .int .i64 s6, .slice tA tn tc, .slice mA mn mc, .int .u16 s7] 40)).heap.size = wr.heap.size + 1 := by simp
        have HX := Lib.hid (Blk.new wr #[.int .i64 s0, .int .u8 s1, .int .i64 s2, .int .u8 s3, .int .u16 s4, .int .i64 s5, .int .i64 s6, .slice tA tn tc, .slice mA mn mc, .int .u16 s7] 40)
        have HB1 := Lib.hid (below_new wr (.cells #[.int .i64 s0, .int .u8 s1, .int .i64 s2, .int .u8 s3, .int .u16 s4, .int .i64 s5, .int .i64 s6, .slice tA tn tc, .slice mA mn mc, .int .u16 s7] 40))
        subst hA
        clear V hb hO R hok hop hmem hna hna2 HAT hkD
        go_upto_region 8 with (fail)
        clear c0 c1 c2 c3 c4 c5 c6 c7 c8 c9
        generalize wr.alloc (.cells #[.int .i64 s0, .int .u8 s1, .int .i64 s2, .int .u8 s3, .int .u16 s4, .int .i64 s5, .int .i64 s6, .slice tA tn tc, .slice mA mn mc, .int .u16 s7] 40) = w3 at HX HO HB1 hz1 ⊢
        have HTT := Lib.hid (HT.out.below' (HB1w.out.trans ((HB.out.trans (HB1.out.mono hz)).mono HB1w.out.size)))
        go_wp2_with ((with_reducible refine wpList_ldI rfl (.tmp 8) rfl HX.out ?_ ?_ ?_); exact rfl; exact rfl)
        refine (HPA.out _ HTT.out.tab).mono ?_
        rintro e w4 ⟨rfl, b4⟩
        have hz4 := b4.size
        have HO := Lib.hid (HO.out.below b4)
        have HB4 := Lib.hid (HB.out.trans ((HB1.out.trans (b4.mono (by omega))).mono hz))
        clear b4 HX HB1 HPA HTT
        cases hp : decide (poolO x ≠ 0)
        · have HE := Lib.hid (hno hp)
          clear hyes hno hp
          go_wp2_with fail
          go_roundw
          case rel => exact ⟨k + 1, d, A', by omega, by go_num, by rw [HE.out], by rw [HE.out]; exact HO.out, HB4.out, trivial⟩
          case measure => simp [intOf]; omega
        · have HE := Lib.hid (hyes hp)
          have HEL := Lib.hid (congrArg List.length (hyes hp))
          have HRV := Lib.hid (rv_int w4 (poolV x))
          generalize poolV x = pv at HE HEL HRV ⊢
          clear hyes hno hp
          have hzz := HB4.out.size
          have hz0 := HB1w.out.size
          go_wp2_with (at_builtin; refine wpList_appV inFit rfl _ _ rfl (Lt w1.heap.size) A' _ d _ rfl (HO.out.alloc _) _ _ 1 1 [pv] rfl HRV.out (poolL (D.take (k + 1))).length (by rw [HEL.out, List.length_append]; rfl) (poolL (D.take (k + 1))) HE.out (by omega) (fun q hq => by have : q < w1.heap.size := hq; simp; omega) ?_; intro A5 d5 w5 ho5 hb5)
          go_roundw
          case rel => exact ⟨k + 1, d5, A5, by omega, by go_num, rfl, ho5, (HB4.out.alloc hzz _).trans hb5.below', trivial⟩
          case measure => simp [intOf]; omega
      · obtain rfl : k = N := by omega
        have htk : D.take k = D := List.take_of_length_le (by have := HN.out; omega)
        rw [htk] at hO ⊢
        have HO := Lib.hid hO
        have HB := Lib.hid (HB1w.out.trans (hb.mono HB1w.out.size))
        clear hO hb htk
        go_wp2_with fail
        go_returns
        exact ⟨A', d, rfl, HO.out.less (fun q hq => Nat.lt_of_lt_of_le hq HB1w.out.size), HB.out⟩
  · have hP : poolsC l = ((readC l).1, []) := by unfold poolsC; rw [if_neg he]
    rw [hP]
    rw [readC_err l he] at HA
    have hne : ((readC l).1 != 0) = true := by simpa using he
    generalize (readC l).1 = E at HA hne ⊢
    clear T hr hP he hlen
    go_enter Tryd.func7, Tryd.ntmps7
    go_wp2_with fail
    refine HA.out.mono ?_
    rintro e w1 ⟨A1, c1, rs, rfl, -, hb1⟩
    go_wp2_with fail
    go_returns
    exact ⟨none, 0, rfl, OV.nil_, hb1⟩
theorem readC_nil : readC [] = (5, []) := by
  unfold readC
  rw [if_neg (by decide), readL_0 _ rfl]
theorem putnil_any (w : World) (A : Option Addr) (c : Nat) (T : TE w) :
    Calls Tryd.prog 16 #[.slice A 0 c] w fun e w' => e = .returned (.tuple #[.slice none 0 0, .int .i64 2]) ∧ Below w.heap.size w w' := by
  have HR := Lib.hid (read_any [] w 0 none 0 0 T Rd.none_ (Nat.le_refl _) (by omega) (Nat.zero_le _))
  rw [readC_nil] at HR
  clear T
  go_enter Tryd.func16, Tryd.ntmps16
  go_wp2_with fail
  refine wp_loop_rounds 1 ?_
  rw [rounds_succ]
  go_wp2_with fail
  refine HR.out.mono ?_
  rintro e w1 ⟨A1, c1, rs, rfl, -, hb1⟩
  go_wp2_with fail
  go_returns
  exact ⟨rfl, hb1⟩
/-! CodeFresh: the walk. -/
/-- A block of so many cells, whatever they hold. -/
def Cls (w : World) (g M : Nat) : Prop := ∃ (cs : Array Value) (t : TypeId), Blk w g cs t ∧ cs.size = M
theorem Cls.set {w : World} {g M : Nat} (h : Cls w g M) (k : Nat) (v : Value) : Cls (w.setCell ⟨g, k, none⟩ v) g M := by
  obtain ⟨cs, t, h1, h2⟩ := h
  exact ⟨_, t, h1.set k v, by simpa using h2⟩
theorem Cls.other {w : World} {g M : Nat} (h : Cls w g M) (p : Addr) (v : Value) (hp : g ≠ p.block) : Cls (w.setCell p v) g M := by
  obtain ⟨cs, t, h1, h2⟩ := h
  exact ⟨cs, t, h1.other p v hp, h2⟩
theorem Cls.at_ {w : World} {g M : Nat} (h : Cls w g M) (q k : Nat) (v : Value) : Cls (w.setCell ⟨q, k, none⟩ v) g M := by
  by_cases hq : g = q
  · subst hq; exact h.set k v
  · exact h.other _ v hq
theorem Cls.froz {w : World} {g M : Nat} (h : Cls w g M) (k : Nat) : w.frozen? ⟨g, k, none⟩ = false := by
  obtain ⟨cs, t, h1, h2⟩ := h
  exact h1.froz k
theorem Cls.cell {w : World} {g M : Nat} (h : Cls w g M) (k : Nat) (hk : k < M) : ∃ v, w.cell? ⟨g, k, none⟩ = some v := by
  obtain ⟨cs, t, h1, h2⟩ := h
  rw [h1.cell k]
  exact ⟨cs[k]'(by omega), Array.getElem?_eq_getElem (by omega)⟩
/-- An own row is nothing, or such a block. -/
theorem OV.cls {w : World} {S : Nat → Prop} {A : Option Addr} {n c : Nat} {l : List Int} (O : OV inR 3 w S A n c l) : n = 0 ∨ ∃ g M, A = some ⟨g, 0, none⟩ ∧ ¬ S g ∧ n ≤ M ∧ Cls w g M := by
  obtain ⟨h1, h2, h3, h4, h5⟩ := O
  rcases h5 with ⟨_, h0, _⟩ | ⟨g, zs, rfl, hg, hh, hz, _, _⟩
  · exact .inl h0
  · refine .inr ⟨g, c, rfl, hg, h3, enA inR zs, _, hh, ?_⟩
    simp [enA, enL_len, hz, inR]
/-- The rows of instructions' tables may be written to. -/
def Tabs (w : World) (m g : Nat) (rs : List RI) : Prop := ∀ i, i < rs.length →
  w.cell? ⟨g, i * 10 + 7, none⟩ = some (.slice (rs.getD i RI.zero).tA (rs.getD i RI.zero).tn (rs.getD i RI.zero).tc) ∧
  ((rs.getD i RI.zero).tn = 0 ∨ ∃ q M, (rs.getD i RI.zero).tA = some ⟨q, 0, none⟩ ∧ m ≤ q ∧ q ≠ g ∧ (rs.getD i RI.zero).tn ≤ M ∧ Cls w q M)
theorem Tabs.set {w : World} {m g : Nat} {rs : List RI} (h : Tabs w m g rs) {q : Nat} (hq : q ≠ g) (k : Nat) (v : Value) : Tabs (w.setCell ⟨q, k, none⟩ v) m g rs := fun i hi => by
  obtain ⟨h1, h2⟩ := h i hi
  refine ⟨?_, ?_⟩
  · rw [← h1]
    exact World.cell?_of_block (Below.heap_setCell w ⟨q, k, none⟩ v g (Ne.symm hq))
  · rcases h2 with h2 | ⟨q', M, a, b, c, d, e⟩
    · exact .inl h2
    · exact .inr ⟨q', M, a, b, c, d, e.at_ q k v⟩
theorem IN.tabs {w : World} {m n c : Nat} {A : Option Addr} {rs : List RI} {l : List Ins} (h : IN w m A n c rs l) : n = 0 ∨ ∃ g, A = some ⟨g, 0, none⟩ ∧ Tabs w m g rs := by
  by_cases h0 : n = 0
  · exact .inl h0
  · right
    have hrv := h.rv.rv
    obtain ⟨g, hA⟩ : ∃ g, A = some ⟨g, 0, none⟩ := by
      obtain ⟨h1, h2, h3, h4, h5⟩ := h.rv
      rcases h5 with ⟨_, h1, _⟩ | ⟨g, zs, e, _⟩
      · exact absurd h1 h0
      · exact ⟨g, e⟩
    refine ⟨g, hA, fun i hi => ⟨?_, ?_⟩⟩
    · obtain ⟨b, off, e, hb, hc⟩ := hrv.ri i (by rw [← h.lenr]; exact hi)
      rw [hA] at e
      cases e
      have := hc 7 (by decide)
      rw [Nat.zero_add] at this
      rw [this]
      rfl
    · have hE := (h.each i (by rw [← h.lenr]; exact hi)).tab
      rcases hE.cls with h1 | ⟨q, M, a, b, d, e⟩
      · exact .inl h1
      · refine .inr ⟨q, M, a, ?_, ?_, d, e⟩
        · rcases Nat.lt_or_ge q m with h1 | h1
          · exact absurd (.inl h1) b
          · exact h1
        · intro hq
          exact b (.inr ⟨⟨g, 0, none⟩, hA, hq.symm⟩)
set_option maxHeartbeats 4000000 in
theorem walk_cfresh (A : Option Addr) (n c : Nat) (l : List Int) (w : World) (T : TE w) (hf : n ≤ 140737488355328) (hn : n ≤ c) (hr : Rd w w.heap.size A n l) :
    Calls Tryd.prog 4 #[.slice A n c] w fun e w' => e = .returned (.bool true) ∧ Below w.heap.size w w' := by
  have hl := hr.len
  have hrg := hr.rg
  have HRD := Lib.hid hr
  have HT := Lib.hid T
  have HRE := Lib.hid (read_any l)
  have HPO := Lib.hid (pools_any l hrg)
  have hDl := readC_len l hrg
  have hrows := readC_rows l hrg
  have HPT : Hid (((readC l).1 = 0 ∧ ∀ W A n c B rs, TE W → IV W B A n rs (readC l).2 → B ≤ W.heap.size →
      Calls Tryd.prog 16 #[.slice A n c] W fun e w' => ∃ A' c', e = .returned (.tuple #[.slice A' l.length c', .int .i64 0]) ∧ OS w' (Lt W.heap.size) A' l.length c' l ∧ Below W.heap.size W w') ∨ (¬ (readC l).1 = 0 ∧ (readC l).2 = [])) := by
    refine Lib.hid ?_
    by_cases he : (readC l).1 = 0
    · exact .inl ⟨he, fun W A n c B rs T hv hB => put_any l hrg W A n c B rs T he hv hB⟩
    · exact .inr ⟨he, by rw [readC_err l he]⟩
  have hPl : (poolsC l).2.length ≤ 2000 := by
    unfold poolsC
    split
    · exact Nat.le_trans (poolL_len _) hDl
    · simp
  obtain ⟨E, D, hED⟩ : ∃ E D, readC l = (E, D) := ⟨_, _, rfl⟩
  obtain ⟨E2, P, hP⟩ : ∃ E2 P, poolsC l = (E2, P) := ⟨_, _, rfl⟩
  rw [hED] at HRE HPT hDl hrows
  rw [hP] at HPO hPl
  unfold ReadSaid at HRE
  unfold PoolsSaid at HPO
  simp only at HRE HPT hDl HPO hPl hrows
  obtain ⟨N, hN⟩ : ∃ N, N = D.length := ⟨_, rfl⟩
  obtain ⟨NP, hNP⟩ : ∃ NP, NP = P.length := ⟨_, rfl⟩
  rw [← hN] at HRE hDl
  rw [← hNP] at HPO hPl
  have HRW := Lib.hid hrows
  rw [hl] at HPT
  have HN := Lib.hid hN
  clear T hr hED hP hNP hrows hN hl
  go_enter Tryd.func4, Tryd.ntmps4
  go_wp2_with fail
  refine (wide_any A n c w.heap.size l w (by omega) HRD.out (Nat.le_refl _)).mono ?_
  rintro e w1 ⟨A1, rfl, hw1, hb1⟩
  have HW1 := Lib.hid hw1
  have HB1 := Lib.hid hb1
  have HT1 := Lib.hid (HT.out.below' hb1)
  clear hw1 hb1
  go_wp2_with fail
  refine (HRE.out w1 _ A1 n (n + 3) HT1.out HW1.out.rd (by omega) (by omega) (Nat.le_refl _)).mono ?_
  rintro e w2 ⟨A2, c2, rs, rfl, hI, hb2⟩
  have htb := hI.tabs
  have HLR := Lib.hid hI.lenr
  have htn := IV.rows hI.iv HRW.out
  have HTN := Lib.hid htn
  have HB2 := Lib.hid hb2
  have HTB := Lib.hid htb
  clear hI hb2 htb htn
  go_wp2_with fail
  go_loopw [6] (fun i wr => ∃ j : Nat, j ≤ N ∧ i = .int .i64 j ∧ Below w1.heap.size w1 wr ∧ (N = 0 ∨ ∃ g, A2 = some ⟨g, 0, none⟩ ∧ Tabs wr w1.heap.size g rs)) (fun i _ => N - (intOf i).toNat)
  case atStart => exact ⟨0, Nat.zero_le _, rfl, HB2.out, HTB.out⟩
  case round =>
    obtain ⟨j, hj, rfl, hb, ht⟩ := hrel
    have i0 : (0 : Int) ≤ (j : Int) := by omega
    by_cases hlt : (j : Int) < (N : Int)
    · rcases ht with h0 | ⟨g, rfl, ht⟩
      · omega
      · have htj := (HTN.out j (by omega)).1
        have hjr : j < rs.length := by rw [HLR.out]; omega
        have HB := Lib.hid hb
        have HTA := Lib.hid ht
        clear hb ht
        go_wp2_with fail
        go_loopw [7] (fun i wx => ∃ k : Nat, k ≤ (rs.getD j RI.zero).tn ∧ i = .int .i64 k ∧ Below w1.heap.size w1 wx ∧ Tabs wx w1.heap.size g rs) (fun i _ => (rs.getD j RI.zero).tn - (intOf i).toNat)
        case atStart => exact ⟨0, Nat.zero_le _, rfl, HB.out, HTA.out⟩
        case round =>
          clear HB HTA
          obtain ⟨k, hk, rfl, hb, ht⟩ := hrel
          obtain ⟨q1, q2⟩ := ht j hjr
          have HB := Lib.hid hb
          have HTA := Lib.hid ht
          clear hb ht
          generalize rs.getD j RI.zero = r at q1 q2 hk htj ⊢
          obtain ⟨sc, tA, tn, tc, mA, mn, mc⟩ := r
          simp only at q1 q2 hk htj ⊢
          have k0 : (0 : Int) ≤ (k : Int) := by omega
          by_cases hkt : (k : Int) < (tn : Int)
          · rcases q2 with h0 | ⟨q, M, rfl, hq1, hq2, hM, hC⟩
            · omega
            · obtain ⟨v, hv⟩ := hC.cell k (by omega)
              have hfz := hC.froz k
              clear hC
              go_wp2_with fail
              go_roundw
              case rel => exact ⟨k + 1, by omega, by go_num, HB.out.setCell hq1 _, HTA.out.set hq2 _ _⟩
              case measure => simp [intOf]; omega
          · obtain rfl : k = tn := by omega
            clear q2
            go_wp2_with fail
            go_roundw
            case rel => exact ⟨j + 1, by omega, by go_num, HB.out, .inr ⟨g, rfl, HTA.out⟩⟩
            case measure => simp [intOf]; omega
    · obtain rfl : j = N := by omega
      have HB := Lib.hid hb
      have HW := Lib.hid (HW1.out.below hb)
      have HTT := Lib.hid (HT1.out.below' hb)
      clear ht hb HTB HB2
      go_wp2_with fail
      refine (HPO.out wr _ A1 n (n + 3) HTT.out HW.out.rd (by omega) (by omega) (Nat.le_refl _)).mono ?_
      rintro e w4 ⟨A4, c4, rfl, hO4, hb4⟩
      have hC4 : NP = 0 ∨ ∃ g M, A4 = some ⟨g, 0, none⟩ ∧ wr.heap.size ≤ g ∧ NP ≤ M ∧ Cls w4 g M := by
        rcases hO4.cls with h0 | ⟨g, M, h1, h2, h3, h4⟩
        · exact .inl h0
        · exact .inr ⟨g, M, h1, Nat.le_of_not_lt h2, h3, h4⟩
      have HC4 := Lib.hid hC4
      clear hC4
      have HB4 := Lib.hid hb4
      clear hO4 hb4
      go_wp2_with fail
      go_loopw [10] (fun i wx => ∃ k : Nat, k ≤ NP ∧ i = .int .i64 k ∧ Below wr.heap.size wr wx ∧ (NP = 0 ∨ ∃ g M, A4 = some ⟨g, 0, none⟩ ∧ wr.heap.size ≤ g ∧ NP ≤ M ∧ Cls wx g M)) (fun i _ => NP - (intOf i).toNat)
      case atStart => exact ⟨0, Nat.zero_le _, rfl, HB4.out, HC4.out⟩
      case round =>
        clear HC4 HB4
        obtain ⟨k, hk, rfl, hb, hc⟩ := hrel
        have k0 : (0 : Int) ≤ (k : Int) := by omega
        by_cases hkt : (k : Int) < (NP : Int)
        · rcases hc with h0 | ⟨g, M, rfl, hg, hM, hC⟩
          · omega
          · obtain ⟨v, hv⟩ := hC.cell k (by omega)
            have hfz := hC.froz k
            have HC := Lib.hid hC
            have HBx := Lib.hid hb
            clear hC hb
            go_wp2_with fail
            go_roundw
            case rel => exact ⟨k + 1, by omega, by go_num, HBx.out.setCell hg _, .inr ⟨g, M, rfl, hg, hM, HC.out.set _ _⟩⟩
            case measure => simp [intOf]; omega
        · obtain rfl : k = NP := by omega
          have HB5 := Lib.hid (HB1.out.trans ((HB.out.trans (hb.mono HB.out.size)).mono HB1.out.size))
          have HW5 := Lib.hid (HW.out.below hb)
          have HT5 := Lib.hid (HTT.out.below' hb)
          clear hc hb HW HTT
          go_wp2_with fail
          refine (HRE.out _ _ A1 n (n + 3) HT5.out HW5.out.rd (by omega) (by omega) (Nat.le_refl _)).mono ?_
          rintro e w6 ⟨A6, c6, rs6, rfl, hI6, hb6⟩
          have HI6 := Lib.hid hI6.iv
          have HB6 := Lib.hid (HB5.out.trans (hb6.mono HB5.out.size))
          have HW6 := Lib.hid (HW5.out.below hb6)
          have HT6 := Lib.hid (HT5.out.below' hb6)
          have HRb := Lib.hid (HRD.out.below HB6.out (Nat.le_refl _))
          clear hI6 hb6 HB5 HW5 HT5 HB
          have hee : (E != E) = false := by simp
          go_wp2_with fail
          refine (left_any w.heap.size A1 A n c w.heap.size l _ (by omega) HW6.out HRb.out).mono ?_
          rintro e w7 ⟨rfl, q7, rfl⟩
          have HI7 := Lib.hid (HI6.out.drewN q7)
          have HB7 := Lib.hid (below_drewN HB6.out q7)
          have HT7 := Lib.hid (HT6.out.drewN q7)
          have hz7 : (w6.drewN q7).heap.size = w6.heap.size := rfl
          rw [← hz7] at HI7
          clear HI6 HB6 HT6 HW6 HRb hz7
          generalize w6.drewN q7 = w7 at HI7 HB7 HT7 ⊢
          rcases HPT.out with ⟨rfl, hPT⟩ | ⟨hE, rfl⟩
          · have HPP := Lib.hid hPT
            clear hPT HPT
            go_wp2_with fail
            refine (HPP.out _ _ _ _ _ _ HT7.out HI7.out (Nat.le_refl _)).mono ?_
            rintro e w8 ⟨A8, c8, rfl, hO8, hb8⟩
            have HO8 := Lib.hid (hO8.ob (base := w7.heap.size) fun _ h => h)
            have HB8 := Lib.hid hb8
            clear hO8 hb8
            go_wp2_with fail
            refine (spoil_any _ A8 _ c8 l 1 w8 HO8.out HB8.out.size (by omega) (by omega)).mono ?_
            rintro e w9 ⟨rfl, hb9⟩
            have HB9 := Lib.hid (HB8.out.trans hb9)
            have HT9 := Lib.hid (HT7.out.below' HB9.out)
            have HI9 := Lib.hid (HI7.out.below HB9.out (Nat.le_refl _))
            have hz9 := HB9.out.size
            clear hb9 HO8 HB8
            go_wp2_with fail
            refine (HPP.out _ _ _ _ _ _ HT9.out HI9.out hz9).mono ?_
            rintro e w10 ⟨A10, c10, rfl, hO10, hb10⟩
            have HB10 := Lib.hid (HB7.out.trans ((HB9.out.trans (hb10.mono hz9)).mono HB7.out.size))
            have HS := Lib.hid (same_yes A10 A n c10 c _ _ l w10 (by omega) hO10.rd (HRD.out.below HB10.out (Nat.le_refl _)))
            have HT10 := Lib.hid (HT9.out.below' hb10)
            clear hO10 hb10
            go_wp2_with fail
            refine HS.out.mono ?_
            rintro e w11 ⟨rfl, q11, rfl⟩
            go_wp2_with fail
            refine (works_any _ (HT10.out.drewN q11)).mono ?_
            rintro e w12 ⟨rfl, hb12⟩
            go_wp2_with fail
            go_returns
            exact ⟨rfl, (below_drewN HB10.out q11).trans (hb12.mono HB10.out.size)⟩
          · have hne : (E != 0) = true := by simpa using hE
            have hN0 : j = 0 := HN.out
            clear hE HPT HN HRW hDl
            subst hN0
            go_wp2_with fail
            refine (putnil_any _ A6 c6 HT7.out).mono ?_
            rintro e w8 ⟨rfl, hb8⟩
            have HB8 := Lib.hid (HB7.out.trans (hb8.mono HB7.out.size))
            have HT8 := Lib.hid (HT7.out.below' hb8)
            clear hb8
            go_wp2_with fail
            refine (spoil_any w8.heap.size none 0 0 [] 1 w8 OB.nil_ (Nat.le_refl _) (by omega) (by omega)).mono ?_
            rintro e w9 ⟨rfl, hb9⟩
            have HB9 := Lib.hid (HB8.out.trans (hb9.mono HB8.out.size))
            have HT9 := Lib.hid (HT8.out.below' hb9)
            clear hb9
            go_wp2_with fail
            refine (putnil_any _ A6 c6 HT9.out).mono ?_
            rintro e w10 ⟨rfl, hb10⟩
            have HB10 := Lib.hid (HB9.out.trans (hb10.mono HB9.out.size))
            have HT10 := Lib.hid (HT9.out.below' hb10)
            clear hb10
            go_wp2_with fail
            refine (works_any _ HT10.out).mono ?_
            rintro e w12 ⟨rfl, hb12⟩
            go_wp2_with fail
            go_returns
            exact ⟨rfl, HB10.out.trans (hb12.mono HB10.out.size)⟩
end Go.Proofs.YtolifmpkillglaaDoor
