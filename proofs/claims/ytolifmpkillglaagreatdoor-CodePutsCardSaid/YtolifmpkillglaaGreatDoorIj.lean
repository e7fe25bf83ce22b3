import Derived.Test.YtolifmpkillglaaGreatDoorIi
set_option linter.unusedVariables false
set_option maxRecDepth 100000
namespace Go.Proofs.YtolifmpkillglaaGreatDoor
open Go.RowKit
/-! checkWays: the walk. -/
theorem RV.kpn {α : Type} {R : Rec α} {w w' : World} {B g n : Nat} {A : Option Addr} {l : List α} (h : RV R w B A n l) (k : Kp (Not1 g) w w') (hg : B ≤ g) : RV R w' B A n l := h.keep fun p hp => k.cell (show p.block ≠ g by omega)
theorem IV.kpn {w w' : World} {B g n : Nat} {A : Option Addr} {rs : List RI} {l : List Ins} (h : IV w B A n rs l) (k : Kp (Not1 g) w w') (hg : B ≤ g) : IV w' B A n rs l := h.keep fun p hp => k.cell (show p.block ≠ g by omega)
theorem Tab.kpn {w w' : World} {g : Nat} (h : Tab w) (k : Kp (Not1 g) w w') (hg : 2 + 1 ≤ g) : Tab w' := h.kp k (fun q hq => show q ≠ g by omega)
/-- The ten cells of the k-th instruction. -/
theorem IV.ten {w : World} {B n : Nat} {A : Option Addr} {rs : List RI} {l : List Ins} (h : IV w B A n rs l) (k : Nat) (hk : k < n) : ∃ b off, A = some ⟨b, off, none⟩ ∧ b < B ∧
    w.cell? ⟨b, off + k * 10, none⟩ = some (.int .i64 (rs.getD k RI.zero).sc.at_) ∧ w.cell? ⟨b, off + k * 10 + 1, none⟩ = some (.int .u8 (rs.getD k RI.zero).sc.op) ∧ w.cell? ⟨b, off + k * 10 + 2, none⟩ = some (.int .i64 (rs.getD k RI.zero).sc.a) ∧ w.cell? ⟨b, off + k * 10 + 3, none⟩ = some (.int .u8 (rs.getD k RI.zero).sc.b) ∧
    w.cell? ⟨b, off + k * 10 + 4, none⟩ = some (.int .u16 (rs.getD k RI.zero).sc.n) ∧ w.cell? ⟨b, off + k * 10 + 5, none⟩ = some (.int .i64 (rs.getD k RI.zero).sc.pool) ∧ w.cell? ⟨b, off + k * 10 + 6, none⟩ = some (.int .i64 (rs.getD k RI.zero).sc.jump) ∧
    w.cell? ⟨b, off + k * 10 + 7, none⟩ = some (.slice (rs.getD k RI.zero).tA (rs.getD k RI.zero).tn (rs.getD k RI.zero).tc) ∧ w.cell? ⟨b, off + k * 10 + 8, none⟩ = some (.slice (rs.getD k RI.zero).mA (rs.getD k RI.zero).mn (rs.getD k RI.zero).mc) ∧ w.cell? ⟨b, off + k * 10 + 9, none⟩ = some (.int .u16 (rs.getD k RI.zero).sc.low) := by
  obtain ⟨b, o, e, hb, hc⟩ := h.rv.ri k hk
  exact ⟨b, o, e, hb, hc 0 (by decide), hc 1 (by decide), hc 2 (by decide), hc 3 (by decide), hc 4 (by decide), hc 5 (by decide), hc 6 (by decide), hc 7 (by decide), hc 8 (by decide), hc 9 (by decide)⟩
def WaysSaid (l : List Ins) (size : Nat) : Prop := ∀ (w : World) (B : Nat) (A : Option Addr) (n c : Nat) (rs : List RI), Tab w → IV w B A n rs l → B ≤ w.heap.size → n ≤ 70000 → (∀ i, i < n → (rs.getD i RI.zero).tn ≤ 70000) →
  Calls Tryz.prog 41 #[.slice A n c, .int .i64 size] w fun e w' => ∃ v, e = .returned v ∧ EV v (eOf (waysL l size)) ∧ Below w.heap.size w w'
theorem Kp.allc {g : Nat} {w w' : World} (k : Kp (Not1 g) w w') (o : Obj) : Kp (Lt w.heap.size) w w' → True := fun _ => trivial
/-- Blocks of w that are not g. -/
def OldN (m g : Nat) : Nat → Prop := fun k => k < m ∧ k ≠ g
theorem Kp.aln {m g : Nat} {w w' : World} (k : Kp (OldN m g) w w') (hm : m ≤ w'.heap.size) (o : Obj) : Kp (OldN m g) w (w'.alloc o) := k.alloc (fun q hq => Nat.lt_of_lt_of_le hq.1 hm) o
theorem Kp.stn {m g : Nat} {w w' : World} (k : Kp (OldN m g) w w') (j : Nat) (v : Value) : Kp (OldN m g) w (w'.setCell ⟨g, j, none⟩ v) := k.setCell (fun h => h.2 rfl) v
theorem IV.old {w w' : World} {B m g n : Nat} {A : Option Addr} {rs : List RI} {l : List Ins} (h : IV w B A n rs l) (k : Kp (OldN m g) w w') (hg : B ≤ g) (hm : g ≤ m) : IV w' B A n rs l := h.keep fun p hp => k.cell (show OldN m g p.block from ⟨by omega, by omega⟩)
set_option maxHeartbeats 4000000 in
theorem ways_any (l : List Ins) (size : Nat) (hs : size ≤ 70000) (hat : ∀ i, i < l.length → ∃ a : Nat, (l.getD i Ins.zero).sc.at_ = a ∧ a < size) (hop : ∀ i, i < l.length → 0 ≤ (l.getD i Ins.zero).sc.op ∧ (l.getD i Ins.zero).sc.op < 256) : WaysSaid l size := by
  intro w B A n c rs T hv hB hn htn
  have hl := hv.len
  have hT3 := T.2.2
  have hmk := fun W => mk_b size (by omega) W
  have HG := Lib.hid (begL_get l size)
  have H0 := Lib.hid (begL_0 l size)
  have HS := Lib.hid (begL_succ l size)
  have HLN := Lib.hid (begL_len l size)
  have HV := Lib.hid (hv.below (B' := w.heap.size) (below_new w (.cells (boA (List.replicate size false)) 4)) hB)
  have HT := Lib.hid (T.alloc (.cells (boA (List.replicate size false)) 4))
  have HB := Lib.hid (Blk.new w (boA (List.replicate size false)) 4)
  have HK := Lib.hid (below_new w (.cells (boA (List.replicate size false)) 4))
  have hz1 : (w.alloc (.cells (boA (List.replicate size false)) 4)).heap.size = w.heap.size + 1 := by simp
  have HAT := Lib.hid hat
  have HOP := Lib.hid hop
  have HTN := Lib.hid htn
  have HW1 := Lib.hid (fun k hk h => all_no l Ins.zero k hk (fun x => (leadL x).all (goodP l size)) h)
  have HWS := Lib.hid (fun k hk => take_all_succ l Ins.zero k hk (fun x => (leadL x).all (goodP l size)))
  have HWE : Hid ((l.take l.length).all (fun x => (leadL x).all (goodP l size)) = waysL l size) := Lib.hid (by rw [List.take_length]; rfl)
  have HWW : Hid (l.all (fun x => (leadL x).all (goodP l size)) = waysL l size) := Lib.hid rfl
  generalize waysL l size = W at HWE HWW ⊢
  clear T hv hat hop htn
  go_enter Tryz.func41, Tryz.ntmps41
  go_upto_region 2 with (fail)
  generalize w.alloc (.cells (boA (List.replicate size false)) 4) = w1 at HV HT HB HK hz1 ⊢
  clear hmk
  go_wp2_with fail
  go_loopw [16] (fun i wr => ∃ k : Nat, k ≤ n ∧ i = .int .i64 k ∧ Blk wr w.heap.size (boA (begL l size k)) 4 ∧ Kp (OldN w1.heap.size w.heap.size) w1 wr) (fun i _ => n - (intOf i).toNat)
  case atStart => exact ⟨0, Nat.zero_le _, rfl, by rw [H0.out]; exact HB.out, Kp.refl _ _⟩
  case round =>
    obtain ⟨k, hk, rfl, hb, K⟩ := hrel
    have i0 : (0 : Int) ≤ (k : Int) := by omega
    by_cases hlt : (k : Int) < (n : Int)
    · have V := HV.out.old K hB (by omega)
      obtain ⟨b, o, hA, hbB, c0, c1, c2, c3, c4, c5, c6, c7, c8, c9⟩ := V.ten k (by omega)
      obtain ⟨a, ha, has⟩ := HAT.out k (by omega)
      have hsc := (V.each k (by omega)).sc
      have hSS := HS.out k a (by omega) ha has
      rw [← hsc] at ha
      generalize rs.getD k RI.zero = r at c0 c1 c2 c3 c4 c5 c6 c7 c8 c9 ha
      obtain ⟨⟨s0, s1, s2, s3, s4, s5, s6, s7⟩, tA, tn, tc, mA, mn, mc⟩ := r
      simp only at c0 c1 c2 c3 c4 c5 c6 c7 c8 c9 ha
      subst ha
      have HSS := Lib.hid hSS
      have hzr := K.size
      have HBB := Lib.hid (hb.alloc (.cells #[.int .i64 a, .int .u8 s1, .int .i64 s2, .int .u8 s3, .int .u16 s4, .int .i64 s5, .int .i64 s6, .slice tA tn tc, .slice mA mn mc, .int .u16 s7] 28))
      have HKK := Lib.hid (K.aln (by omega) (.cells #[.int .i64 a, .int .u8 s1, .int .i64 s2, .int .u8 s3, .int .u16 s4, .int .i64 s5, .int .i64 s6, .slice tA tn tc, .slice mA mn mc, .int .u16 s7] 28))
      have g0 : (wr.alloc (.cells #[.int .i64 a, .int .u8 s1, .int .i64 s2, .int .u8 s3, .int .u16 s4, .int .i64 s5, .int .i64 s6, .slice tA tn tc, .slice mA mn mc, .int .u16 s7] 28)).cell? ⟨wr.heap.size, 0, none⟩ = some (.int .i64 a) := (Blk.new wr #[.int .i64 a, .int .u8 s1, .int .i64 s2, .int .u8 s3, .int .u16 s4, .int .i64 s5, .int .i64 s6, .slice tA tn tc, .slice mA mn mc, .int .u16 s7] 28).cell 0
      have ga : (wr.alloc (.cells #[.int .i64 a, .int .u8 s1, .int .i64 s2, .int .u8 s3, .int .u16 s4, .int .i64 s5, .int .i64 s6, .slice tA tn tc, .slice mA mn mc, .int .u16 s7] 28)).cell? ⟨w.heap.size, a, none⟩ = some _ := boA_cell (hb.alloc (.cells #[.int .i64 a, .int .u8 s1, .int .i64 s2, .int .u8 s3, .int .u16 s4, .int .i64 s5, .int .i64 s6, .slice tA tn tc, .slice mA mn mc, .int .u16 s7] 28)) a (by rw [HLN.out]; exact has)
      have gf := (hb.alloc (.cells #[.int .i64 a, .int .u8 s1, .int .i64 s2, .int .u8 s3, .int .u16 s4, .int .i64 s5, .int .i64 s6, .slice tA tn tc, .slice mA mn mc, .int .u16 s7] 28)).froz a
      have hai : (a : Int) < (size : Int) := by omega
      have ha0 : (0 : Int) ≤ (a : Int) := by omega
      subst hA
      clear hb K V hsc hSS
      go_upto_region 5 with (fail)
      generalize wr.alloc (.cells #[.int .i64 a, .int .u8 s1, .int .i64 s2, .int .u8 s3, .int .u16 s4, .int .i64 s5, .int .i64 s6, .slice tA tn tc, .slice mA mn mc, .int .u16 s7] 28) = w2 at HBB HKK g0 ga gf ⊢
      clear c0 c1 c2 c3 c4 c5 c6 c7 c8 c9
      go_wp2_with fail
      go_roundw
      case rel => exact ⟨k + 1, by omega, by go_num, by rw [HSS.out, ← boA_set]; exact HBB.out.set a (.bool true), HKK.out.stn a (.bool true)⟩
      case measure => simp [intOf]; omega
    · obtain rfl : k = n := by omega
      have hzr := K.size
      have HBG := Lib.hid hb
      have HV := Lib.hid (HV.out.old K hB (by omega))
      have HT := Lib.hid (HT.out.kp K (fun q hq => ⟨by omega, by omega⟩))
      have HK := Lib.hid (HK.out.trans (K.below (fun q hq => ⟨by omega, by omega⟩)))
      clear hb K
      go_wp2_with fail
      rename World => wb
      go_loopw [27] (fun i wx => ∃ j : Nat, j ≤ k ∧ i = .int .i64 j ∧ (l.take j).all (fun x => (leadL x).all (goodP l size)) = true ∧ Below wb.heap.size wb wx) (fun i _ => k - (intOf i).toNat)
      case atStart => exact ⟨0, Nat.zero_le _, rfl, by simp, Below.refl _ _⟩
      case round =>
        obtain ⟨j, hj, rfl, hall, Bx⟩ := hrel
        have j0 : (0 : Int) ≤ (j : Int) := by omega
        have hzx := Bx.size
        by_cases hlt2 : (j : Int) < (k : Int)
        · have V := HV.out.below Bx (by omega)
          obtain ⟨b, o, hA, hbB, c0, c1, c2, c3, c4, c5, c6, c7, c8, c9⟩ := V.ten j (by omega)
          have IR := V.each j (by omega)
          obtain ⟨ho0, ho1⟩ := HOP.out j (by omega)
          have htn1 := HTN.out j (by omega)
          have hst := HWS.out j (by omega)
          have hno := HW1.out j (by omega)
          rw [hall, Bool.true_and] at hst
          generalize l.getD j Ins.zero = x at IR ho0 ho1 hst hno
          generalize rs.getD j RI.zero = r at c0 c1 c2 c3 c4 c5 c6 c7 c8 c9 IR htn1
          obtain ⟨⟨a, s1, s2, s3, s4, s5, s6, s7⟩, tA, tn, tc, mA, mn, mc⟩ := r
          simp only at c0 c1 c2 c3 c4 c5 c6 c7 c8 c9
          have HBX := Lib.hid (Blk.new wr #[.int .i64 a, .int .u8 s1, .int .i64 s2, .int .u8 s3, .int .u16 s4, .int .i64 s5, .int .i64 s6, .slice tA tn tc, .slice mA mn mc, .int .u16 s7] 28)
          have hz2 : (wr.alloc (.cells #[.int .i64 a, .int .u8 s1, .int .i64 s2, .int .u8 s3, .int .u16 s4, .int .i64 s5, .int .i64 s6, .slice tA tn tc, .slice mA mn mc, .int .u16 s7] 28)).heap.size = wr.heap.size + 1 := by simp
          have HLD := Lib.hid (leads_any x ⟨⟨a, s1, s2, s3, s4, s5, s6, s7⟩, tA, tn, tc, mA, mn, mc⟩ (wr.alloc (.cells #[.int .i64 a, .int .u8 s1, .int .i64 s2, .int .u8 s3, .int .u16 s4, .int .i64 s5, .int .i64 s6, .slice tA tn tc, .slice mA mn mc, .int .u16 s7] 28)) B ((HT.out.below Bx (by omega)).alloc _) (IR.below (B' := wr.heap.size) (below_new _ _) (by omega)) (by omega) ho0 ho1 htn1)
          have HBY := Lib.hid (Bx.alloc (by omega) (.cells #[.int .i64 a, .int .u8 s1, .int .i64 s2, .int .u8 s3, .int .u16 s4, .int .i64 s5, .int .i64 s6, .slice tA tn tc, .slice mA mn mc, .int .u16 s7] 28))
          generalize leadL x = P at HLD hst hno
          have HST := Lib.hid hst
          have HNO := Lib.hid hno
          have HALL := Lib.hid hall
          subst hA
          clear V IR hst hno hall Bx ho0 ho1 htn1
          go_upto_region 10 with (fail)
          generalize wr.alloc (.cells #[.int .i64 a, .int .u8 s1, .int .i64 s2, .int .u8 s3, .int .u16 s4, .int .i64 s5, .int .i64 s6, .slice tA tn tc, .slice mA mn mc, .int .u16 s7] 28) = w2 at HBX hz2 HLD HBY ⊢
          clear c0 c1 c2 c3 c4 c5 c6 c7 c8 c9
          go_wp2_with ((with_reducible refine wpList_ldI rfl (.tmp 9) rfl HBX.out ?_ ?_ ?_); exact rfl; exact rfl)
          refine HLD.out.mono ?_
          rintro e w3 ⟨A', c', rfl, O3, b3⟩
          have HO3 := Lib.hid O3
          have HBX := Lib.hid (HBX.out.below b3)
          have HBG := Lib.hid (HBG.out.below (HBY.out.trans (b3.mono (by omega))))
          have HBY := Lib.hid (HBY.out.trans (b3.mono (by omega)))
          have hz3 := b3.size
          have y0 : w3.cell? ⟨wr.heap.size, 0, none⟩ = some (.int .i64 a) := HBX.out.cell 0
          clear O3 b3 HLD
          rename World => wq
          have hpl := HO3.out.rv
          have HRP := Lib.hid hpl
          clear hpl
          have hps : P.length ≤ 9223372036854775807 := by
            have h3 := HO3.out.le
            have h4 := HO3.out.2.2.2.1
            unfold maxLen at h4
            omega
          go_wp2_with fail
          go_loopw [34] (fun i wy => ∃ m : Nat, m ≤ P.length ∧ i = .int .i64 m ∧ (P.take m).all (goodP l size) = true ∧ wy = wq) (fun i _ => P.length - (intOf i).toNat)
          case atStart => exact ⟨0, Nat.zero_le _, rfl, by simp, rfl⟩
          case round =>
            obtain ⟨m, hm, rfl, hpm, rfl⟩ := hrel
            have m0 : (0 : Int) ≤ (m : Int) := by omega
            by_cases hlt3 : (m : Int) < (P.length : Int)
            · obtain ⟨b4, o4, hA4, _, c0⟩ := HRP.out.in1 m (by omega)
              have hgs := take_all_succ P 0 m (by omega) (goodP l size)
              have hgn := all_no P 0 m (by omega) (goodP l size)
              rw [hpm, Bool.true_and] at hgs
              obtain ⟨p, hp⟩ : ∃ p, P.getD m 0 = p := ⟨_, rfl⟩
              rw [hp] at c0 hgs hgn
              subst hA4
              clear hp
              by_cases hp0 : p < 0
              · have hbad : goodP l size p = false := by unfold goodP; rw [decide_eq_false (by omega)]; rfl
                have hW := HWW.out
                rw [HNO.out (hgn hbad)] at hW
                subst hW
                clear hgs hgn hbad
                go_wp2_with fail
                go_returns
                exact ⟨_, rfl, EV.mis _ _, HK.out.trans (HBY.out.mono (by omega))⟩
              · by_cases hp1 : p ≥ (size : Int)
                · have hbad : goodP l size p = false := by unfold goodP; rw [decide_eq_false (show ¬ p < (size : Int) by omega), Bool.and_false]; rfl
                  have hW := HWW.out
                  rw [HNO.out (hgn hbad)] at hW
                  subst hW
                  clear hgs hgn hbad
                  go_wp2_with fail
                  go_returns
                  exact ⟨_, rfl, EV.mis _ _, HK.out.trans (HBY.out.mono (by omega))⟩
                · obtain ⟨pn, rfl⟩ : ∃ pn : Nat, p = pn := ⟨p.toNat, by omega⟩
                  have hpn : pn < size := by omega
                  have gb := boA_cell HBG.out pn (by rw [HLN.out]; exact hpn)
                  have hgg := HG.out pn hpn
                  rw [hl] at hgg
                  rw [hgg] at gb
                  have hgp : goodP l size (pn : Int) = l.any fun x => x.sc.at_ == (pn : Int) := by
                    unfold goodP
                    rw [decide_eq_true (show (0 : Int) ≤ (pn : Int) by omega), decide_eq_true (show (pn : Int) < (size : Int) by omega)]
                    rfl
                  rw [hgp] at hgs hgn
                  clear hgg hgp
                  generalize (l.any fun x => x.sc.at_ == (pn : Int)) = ok at gb hgs hgn
                  have q1 : (pn : Int) < (size : Int) := by omega
                  have q2 : ¬ (pn : Int) < 0 := by omega
                  have q3 : ¬ (pn : Int) ≥ (size : Int) := by omega
                  cases ok
                  · have hW := HWW.out
                    rw [HNO.out (hgn rfl)] at hW
                    subst hW
                    clear hgs hgn
                    go_wp2_with fail
                    go_returns
                    exact ⟨_, rfl, EV.mis _ _, HK.out.trans (HBY.out.mono (by omega))⟩
                  · have HGS := Lib.hid hgs
                    clear hgs hgn
                    go_wp2_with fail
                    go_roundw
                    case rel => exact ⟨m + 1, by omega, by go_num, HGS.out, trivial⟩
                    case measure => simp [intOf]; omega
            · obtain rfl : m = P.length := by omega
              rw [List.take_length] at hpm
              have hst := HST.out
              rw [hpm] at hst
              have HST := Lib.hid hst
              clear hst hpm
              go_wp2_with fail
              go_roundw
              case rel => exact ⟨j + 1, by omega, by go_num, HST.out, HBY.out⟩
              case measure => simp [intOf]; omega
        · obtain rfl : j = k := by omega
          subst hl
          have := HWE.out
          rw [hall] at this
          subst this
          go_wp2_with fail
          go_returns
          exact ⟨_, rfl, EV.ok, HK.out.trans (Bx.mono (by omega))⟩
end Go.Proofs.YtolifmpkillglaaGreatDoor
