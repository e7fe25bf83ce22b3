import Derived.Test.YtnigipaebpddfaaDoorJg
import Derived.Test.YtnigipaebpddfaaDoorIv
import Derived.Test.YtnigipaebpddfaaDoorDb
set_option linter.unusedVariables false
set_option maxRecDepth 100000
namespace Go.Proofs.YtnigipaebpddfaaDoor
open Go.RowKit
/-! CodeBack: the walk. -/
theorem IV.more2 {w : World} {B B' n : Nat} {A : Option Addr} {rs : List RI} {l : List Ins} (h : IV w B A n rs l) (hB : B ≤ B') : IV w B' A n rs l := ⟨h.rv.more hB, h.len, fun i hi => (h.each i hi).more hB⟩
def Place (l : List Int) (D : List Ins) (k i : Nat) : Prop := ∃ f, readF l f i = (0, D.drop k) ∧ l.length ≤ i + f ∧ i ≤ l.length ∧ ∀ y ∈ D.take k, ∃ a : Nat, y.sc.at_ = a ∧ a < i
theorem Place.start (l : List Int) (D : List Ins) (h : readF l l.length 0 = (0, D)) : Place l D 0 0 := ⟨l.length, h, by omega, Nat.zero_le _, fun y hy => by cases hy⟩
theorem Place.end_ {l : List Int} {D : List Ins} {k i : Nat} (h : Place l D k i) (hk : D.length ≤ k) : i = l.length := by
  obtain ⟨f, h1, h2, h3, _⟩ := h
  exact put_end l D k i f hk h3 h2 h1
theorem Place.step {l : List Int} {D : List Ins} {k i : Nat} (h : Place l D k i) (hr : rng l) (hk : k < D.length) :
    i < l.length ∧ (D.getD k Ins.zero).sc.at_ = i ∧ atL D 0 i = k ∧ (D.getD k Ins.zero).sc.op = l.getD i 0 ∧ i + sizeP (D.getD k Ins.zero) ≤ l.length ∧ Place l D (k + 1) (i + sizeP (D.getD k Ins.zero)) := by
  obtain ⟨f, h1, h2, h3, h4⟩ := h
  obtain ⟨hi, he, hx, hs, hl, _, f', h5, h6⟩ := put_step l hr D k i f hk h2 h1
  have ok := insE_ok l i hr hi he
  rw [← hs] at h5 h6
  rw [← hx] at ok hs h5 h6
  have hat : (D.getD k Ins.zero).sc.at_ = i := ok.1
  have hlt : i < i + sizeP (D.getD k Ins.zero) := by rw [hs]; exact ok.2.2.2.1
  have hD : D = D.take k ++ D.getD k Ins.zero :: D.drop (k + 1) := by rw [← ins_drop D k hk, List.take_append_drop]
  refine ⟨hi, hat, ?_, ok.2.1, by omega, f', h5, by omega, by omega, fun y hy => ?_⟩
  · have := atL_behind (i : Int) (D.getD k Ins.zero) (D.drop (k + 1)) hat (D.take k) 0 (fun y hy => by obtain ⟨a, ha, hb⟩ := h4 y hy; omega)
    rw [← hD] at this
    rw [this, List.length_take]
    omega
  · have e : D.take (k + 1) = D.take k ++ [D.getD k Ins.zero] := by
      rw [List.take_add, ins_drop D k hk]
      rfl
    rw [e] at hy
    rcases List.mem_append.1 hy with hy | hy
    · obtain ⟨a, ha, hb⟩ := h4 y hy
      exact ⟨a, ha, by omega⟩
    · rcases List.mem_singleton.1 hy with rfl
      exact ⟨i, hat, hlt⟩
def BkS (p0 p1 p2 : Addr) (i : Nat) (op : Int) (wr W : World) : Prop := W.cell? p0 = some (.int .i64 i) ∧ W.cell? p1 = some (.int .u8 op) ∧ W.cell? p2 = some (.int .u8 op) ∧ Below wr.heap.size wr W
theorem BkS.keep {p0 p1 p2 : Addr} {i : Nat} {op : Int} {wr W W' : World} (h : BkS p0 p1 p2 i op wr W) (hb : Below W.heap.size W W') : BkS p0 p1 p2 i op wr W' := by
  obtain ⟨h0, h1, h2, h3⟩ := h
  exact ⟨(hb.cell (World.block_lt_of_cell? W _ h0)).trans h0, (hb.cell (World.block_lt_of_cell? W _ h1)).trans h1, (hb.cell (World.block_lt_of_cell? W _ h2)).trans h2, h3.trans (hb.mono h3.size)⟩
set_option maxHeartbeats 4000000 in
theorem walk_back (A : Option Addr) (n c : Nat) (l : List Int) (w : World) (T : TE w) (hf : n ≤ 140737488355328) (hn : n ≤ c) (hr : Rd w w.heap.size A n l) :
    Calls Tryd.prog 4 #[.slice A n c] w fun e w' => e = .returned (.bool true) ∧ Below w.heap.size w w' := by
  have hl := hr.len
  have hrg := hr.rg
  have HA := Lib.hid (read_any l w w.heap.size A n c T hr hn (by omega) (Nat.le_refl _))
  have HT := Lib.hid T
  have HW := Lib.hid works_any
  have HRD := Lib.hid hr
  by_cases he : (readC l).1 = 0
  · obtain ⟨hl2, hl0, hF, _⟩ := readC_inv l he
    have hPS := Place.start l _ hF
    have hrw := readC_rows l hrg
    have hPU := Lib.hid (fun W A n c B rs T hv hB => put_any l hrg W A n c B rs T he hv hB)
    have hDb := readC_len l hrg
    rw [he] at HA
    generalize (readC l).2 = D at HA hPS hrw hPU hDb
    have HP := Lib.hid hPS
    have HRW := Lib.hid hrw
    clear T hr hF hPS hrw he
    go_enter Tryd.func4, Tryd.ntmps4
    go_wp2_with fail
    refine HA.out.mono ?_
    rintro e w1 ⟨A1, c1', rs, rfl, N1, b1⟩
    have hz1 := b1.size
    have HTT := Lib.hid (HT.out.below' b1)
    have HB := Lib.hid b1
    have HN := Lib.hid N1
    clear N1 b1
    go_wp2_with fail
    refine (hPU.out w1 A1 D.length c1' w1.heap.size rs HTT.out HN.out.iv (Nat.le_refl _)).mono ?_
    rintro e w2 ⟨A2, c2, rfl, O2, b2⟩
    have hz2 := b2.size
    have HTT := Lib.hid (HTT.out.below' b2)
    have HB := Lib.hid (HB.out.trans (b2.mono hz1))
    have HV := Lib.hid (HN.out.iv.below b2 (Nat.le_refl _))
    have HO := Lib.hid O2
    have HRD := Lib.hid (HRD.out.below HB.out (Nat.le_refl _))
    have HROW := Lib.hid (HV.out.len)
    have HRR := Lib.hid (HN.out.rows HRW.out)
    clear O2 b2 HA hPU HN
    go_wp2_with fail
    go_loopw [7, 8] (fun p j wr => ∃ k i : Nat, k ≤ D.length ∧ p = .int .i64 i ∧ j = .int .i64 k ∧ Place l D k i ∧ Below w2.heap.size w2 wr) (fun _ j _ => D.length - (intOf j).toNat)
    case atStart => exact ⟨0, 0, Nat.zero_le _, rfl, rfl, HP.out, Below.refl _ _⟩
    case round =>
      obtain ⟨k, i, hk, rfl, rfl, hpl, hb⟩ := hrel
      have i0 : (0 : Int) ≤ (k : Int) := by omega
      have hz := hb.size
      by_cases hlt : (k : Int) < (D.length : Int)
      · obtain ⟨hi, hat, hal, hop, hile, hpl'⟩ := hpl.step hrg (by omega)
        have V := HV.out.below hb (by omega)
        have R := HRD.out.below hb (by omega)
        obtain ⟨bb, oo, hAA, hbb, hby⟩ := R.2.2 (by omega)
        have hby := hby i (by omega)
        obtain ⟨b, o, hA, hbB, c0, c1, _⟩ := V.ten k (by omega)
        have hs := (V.each k (by omega)).sc
        rw [hs] at c0 c1
        rw [hat] at c0
        rw [hop] at c1
        have hht := Lib.hid (HRR.out k (by omega))
        have HPL := Lib.hid hpl'
        have HB2 := Lib.hid hb
        have hatw := fun W (g : Below wr.heap.size wr W) => at_of D i W A1 D.length c1' W.heap.size rs (((HV.out.below hb (by omega)).below g (by omega)).more2 (by have := g.size; omega)) (Nat.le_refl _) (by omega)
        rw [hal] at hatw
        have HO2 := Lib.hid (rng_getD hrg i)
        rw [← hop] at HO2
        have HIL := Lib.hid hile
        generalize l.getD i 0 = op at c1 hby
        subst hA hAA
        have hS : BkS ⟨b, o + k * 10, none⟩ ⟨b, o + k * 10 + 1, none⟩ ⟨bb, oo + i, none⟩ i op wr wr := ⟨c0, c1, hby, Below.refl _ _⟩
        have HAT := Lib.hid (fun W (g : BkS ⟨b, o + k * 10, none⟩ ⟨b, o + k * 10 + 1, none⟩ ⟨bb, oo + i, none⟩ i op wr W) => hatw W g.2.2.2)
        have b1 : ((i : Int) != (i : Int)) = false := by simp
        have b2 : ((k : Int) != (k : Int)) = false := by simp
        have b3 : (op != op) = false := by simp
        have b4 : decide ((i : Int) ≥ (n : Int)) = false := by rw [decide_eq_false_iff_not]; omega
        have b5 : decide (n ≤ i) = false := by rw [decide_eq_false_iff_not]; omega
        have i1 : (0 : Int) ≤ (i : Int) := by omega
        have i2 : (i : Int) < (n : Int) := by omega
        clear hatw V R hs hat hal hop hpl hpl' hb hile
        go_upto_region 9 with (fail)
        go_cut [64] from 33 to 64 (fun p wx => p = .bool false ∧ Below wr.heap.size wr wx)
        case first =>
          clear c0 c1 hby
          go_region_held3 (fun W => W.cell? ⟨b, o + k * 10, none⟩ = some (.int .i64 i) ∧ W.cell? ⟨b, o + k * 10 + 1, none⟩ = some (.int .u8 op) ∧ W.cell? ⟨bb, oo + i, none⟩ = some (.int .u8 op) ∧ Below wr.heap.size wr W)
            (first | exact BkS.keep hS (Below.refl _ _).drew | exact BkS.keep (by assumption) (by assumption))
            (first
              | (go_at_call 14; refine (HAT.out _ (by assumption)).mono ?_; rintro e w' ⟨rfl, hb⟩))
          all_goals (go_wp2_with fail; go_meet; rename_i hX; exact ⟨rfl, hX.2.2.2⟩)
        case rest =>
          obtain ⟨rfl, bx⟩ := hcut
          have hzx := bx.size
          clear c0 c1 hby hS HAT
          have HB2 := Lib.hid (HB2.out.trans (bx.mono hz))
          have V := HV.out.below HB2.out (by omega)
          obtain ⟨b', o', hA, hbB', d0, d1, d2, d3, d4, d5, d6, d7, d8, d9⟩ := V.ten k (by omega)
          cases hA
          have HSZ := Lib.hid (size_any (D.getD k Ins.zero) (rs.getD k RI.zero) wc w2.heap.size (HTT.out.below' HB2.out).tab ((V.each k (by omega)).more (by omega)) HO2.out.1 HO2.out.2 hht.out.1)
          have hwr : IntKind.i64.wrap ((i : Int) + (sizeP (D.getD k Ins.zero) : Int)) = ((i + sizeP (D.getD k Ins.zero) : Nat) : Int) := by have := HIL.out; rw [IntWalk.i64_in _ (by omega)]; omega
          generalize sizeP (D.getD k Ins.zero) = P at HSZ HPL HIL hwr
          generalize rs.getD k RI.zero = r at d0 d1 d2 d3 d4 d5 d6 d7 d8 d9 HSZ
          obtain ⟨⟨s0, s1, s2, s3, s4, s5, s6, s7⟩, tA, tn, tc, mA, mn, mc⟩ := r
          rw [RI.val_eq] at HSZ
          simp only at d0 d1 d2 d3 d4 d5 d6 d7 d8 d9
          clear V bx
          go_upto_region 11 with (fail)
          go_wp2_with fail
          refine HSZ.out.mono ?_
          rintro e w5 ⟨rfl, b5⟩
          have HB2 := Lib.hid (HB2.out.trans (b5.mono (by omega)))
          clear b5 d0 d1 d2 d3 d4 d5 d6 d7 d8 d9
          go_wp2_with fail
          go_roundw
          case rel => exact ⟨k + 1, i + P, by omega, by first | rfl | (rw [hwr]), by go_num, HPL.out, HB2.out⟩
          case measure => simp [intOf]; omega
      · obtain rfl : k = D.length := by omega
        have hie := hpl.end_ (Nat.le_refl _)
        rw [hl] at hie
        subst hie
        have HSM := Lib.hid (same_yes A A2 i c c2 w.heap.size w2.heap.size l wr (by omega) (HRD.out.below hb (by omega)) (by have := (HO.out.rd.below hb (Nat.le_refl _)); rwa [hl] at this))
        have HB := Lib.hid (HB.out.trans (hb.mono (by have := HB.out.size; omega)))
        have HTT := Lib.hid (HTT.out.below' hb)
        clear hpl hb
        go_wp2_with fail
        refine HSM.out.mono ?_
        rintro e w5 ⟨rfl, q, rfl⟩
        have HB := Lib.hid (below_drewN HB.out q)
        have HTT := Lib.hid (HTT.out.drewN q)
        go_wp2_with fail
        refine (HW.out _ HTT.out).mono ?_
        rintro e w6 ⟨rfl, b6⟩
        have HB := Lib.hid (HB.out.trans (b6.mono HB.out.size))
        clear b6
        go_wp2_with fail
        go_returns
        exact ⟨rfl, HB.out⟩
  · have HER := readC_err l he
    generalize readC l = R at HA he HER
    obtain ⟨e1, L⟩ := R
    simp only at HA he HER
    subst HER
    have h1 : (e1 != 0) = true := by simpa using he
    clear T hr he
    go_enter Tryd.func4, Tryd.ntmps4
    go_wp2_with fail
    refine HA.out.mono ?_
    rintro e w1 ⟨A1, c1, rs, rfl, N1, b1⟩
    have HTT := Lib.hid (HT.out.below' b1)
    have HB := Lib.hid b1
    clear N1 b1
    go_wp2_with fail
    refine (HW.out _ HTT.out).mono ?_
    rintro e w6 ⟨rfl, b6⟩
    have HB := Lib.hid (HB.out.trans (b6.mono HB.out.size))
    clear b6
    go_wp2_with fail
    go_returns
    exact ⟨rfl, HB.out⟩
end Go.Proofs.YtnigipaebpddfaaDoor
