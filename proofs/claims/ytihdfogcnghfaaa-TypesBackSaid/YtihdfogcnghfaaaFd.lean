import Derived.Test.YtihdfogcnghfaaaFc
set_option linter.unusedVariables false
namespace Go.Proofs.Ytihdfogcnghfaaa
open Go.RowKit
/-! Signatures. -/
def allMay (l : List Ty) : Bool := l.all fun p => mayT p.1 p.2
def maySB (k cl : Int) (l : List Ty) : Bool := mayR k cl && (decide (l.length ≤ 15) && allMay l)
theorem RV.ty {w : World} {B n : Nat} {A : Option Addr} {l : List Ty} (h : RV tyR w B A n l) (j : Nat) (hj : j < n) :
    ∃ b off, A = some ⟨b, off, none⟩ ∧ b < B ∧ w.cell? ⟨b, off + j * 2, none⟩ = some (.int .u8 (l.getD j (0, 0)).1) ∧ w.cell? ⟨b, off + j * 2 + 1, none⟩ = some (.int .u16 (l.getD j (0, 0)).2) ∧ tyB (l.getD j (0, 0)).1 (l.getD j (0, 0)).2 := by
  obtain ⟨b, off, e, hb, hc⟩ := h.2.2 (by omega)
  have h0 := hc j hj 0 (by decide)
  have h1 := hc j hj 1 (by decide)
  exact ⟨b, off, e, hb, h0, h1, allok_getD (R := tyR) h.2.1 j⟩
theorem allMay_snoc (l : List Ty) (j : Nat) (h : j < l.length) : allMay (l.take (j + 1)) = (allMay (l.take j) && mayT (l.getD j (0, 0)).1 (l.getD j (0, 0)).2) := by
  rw [List.take_succ_eq_append_getElem h, List.getD_eq_getElem?_getD, List.getElem?_eq_getElem h]
  simp only [allMay, List.all_append, List.all_cons, List.all_nil, Bool.and_true, Option.getD_some]
theorem allMay_no (l : List Ty) (j : Nat) (h : j < l.length) (hm : mayT (l.getD j (0, 0)).1 (l.getD j (0, 0)).2 = false) : allMay l = false := by
  rw [List.getD_eq_getElem?_getD, List.getElem?_eq_getElem h] at hm
  unfold allMay
  rw [List.all_eq_false]
  exact ⟨l[j], List.getElem_mem h, by simpa using hm⟩
set_option maxHeartbeats 1000000 in
theorem maysig_any (A : Option Addr) (n c B : Nat) (k cl : Int) (l : List Ty) (w : World) (hr : RV tyR w B A n l) (hB : B ≤ w.heap.size) (hn : n ≤ 281474976710656) (hb : tyB k cl) :
    Calls Try.prog 34 #[.agg #[.slice A n c, .int .u8 k, .int .u16 cl]] w fun e w' => e = .returned (.bool (maySB k cl l)) ∧ Below w.heap.size w w' := by
  have HR := Lib.hid (fun w => mayret_any k cl w hb.1.1 hb.2.1)
  have HL := Lib.hid hr.len
  unfold maySB
  rw [hr.len]
  cases hm : mayR k cl
  · rw [hm] at HR
    clear hm hr
    go_enter Try.func34, Try.ntmps34
    go_wp2_with fail
    refine (HR.out _).mono ?_
    rintro e w1 ⟨rfl, hb1⟩
    go_wp2_with fail
    go_returns
    exact ⟨rfl, ((Below.refl _ _).alloc (Nat.le_refl _) _).trans (hb1.mono (by simp))⟩
  · rw [hm] at HR
    clear hm
    by_cases h15 : n ≤ 15
    · rw [decide_eq_true h15]
      have i15 : ¬ (n : Int) > 15 := by omega
      have HV := Lib.hid hr
      clear hr
      go_enter Try.func34, Try.ntmps34
      go_wp2_with fail
      refine (HR.out _).mono ?_
      rintro e w1 ⟨rfl, hb1⟩
      have z1 : w.heap.size < w1.heap.size := by have := hb1.size; simp at this; omega
      have B1 : Below w.heap.size w w1 := ((Below.refl _ _).alloc (Nat.le_refl _) _).trans (hb1.mono (by simp))
      have g0 : w1.cell? ⟨w.heap.size, 0, none⟩ = some (.slice A n c) := (hb1.cell (p := ⟨w.heap.size, 0, none⟩) (by simp)).trans (by go_simp)
      clear hb1
      go_wp2_with fail
      go_loopw [18] (fun i wr => ∃ j : Nat, j ≤ n ∧ i = .int .i64 j ∧ allMay (l.take j) = true ∧ Below w.heap.size w wr) (fun i _ => n - (intOf i).toNat)
      case atStart => exact ⟨0, Nat.zero_le _, rfl, rfl, B1⟩
      case round =>
        clear g0 z1 B1
        obtain ⟨j, hj, rfl, ha, hbr⟩ := hrel
        have HA := Lib.hid ha
        have HB := Lib.hid hbr
        clear ha hbr
        have hz := HB.out.size
        by_cases hlt : j < n
        · obtain ⟨b, off, rfl, hbb, q0, q1, qb⟩ := (HV.out.below HB.out hB).ty j hlt
          have HS := Lib.hid (allMay_snoc l j (by rw [HL.out]; exact hlt))
          have HN := Lib.hid (allMay_no l j (by rw [HL.out]; exact hlt))
          generalize l.getD j (0, 0) = p at q0 q1 qb HS HN
          obtain ⟨p1, p2⟩ := p
          simp only at q0 q1 qb
          have HM := Lib.hid (fun w => may_any p1 p2 w qb.1.1 qb.2.1)
          cases hm : mayT p1 p2
          · rw [hm] at HM
            have HX := Lib.hid (HN.out hm)
            clear hm HN HS
            go_wp2_with fail
            refine (HM.out _).mono ?_
            rintro e w2 ⟨rfl, hb2⟩
            go_wp2_with fail
            go_returns
            exact ⟨by rw [HX.out]; rfl, HB.out.trans (((Below.refl _ _).alloc hz _).trans (hb2.mono (by simp; omega)))⟩
          · rw [hm] at HM
            have HX := Lib.hid hm
            clear hm HN
            go_wp2_with fail
            refine (HM.out _).mono ?_
            rintro e w2 ⟨rfl, hb2⟩
            go_wp2_with fail
            go_roundw
            case rel => exact ⟨j + 1, by omega, by go_num, by rw [HS.out, HA.out, HX.out]; rfl, HB.out.trans (((Below.refl _ _).alloc hz _).trans (hb2.mono (by simp; omega)))⟩
            case measure => simp [intOf]; omega
        · obtain rfl : j = n := by omega
          go_wp2_with fail
          go_returns
          have hal : allMay l = true := by have := HA.out; rwa [List.take_of_length_le (by rw [HL.out]; omega)] at this
          exact ⟨by rw [hal]; rfl, HB.out⟩
    · rw [decide_eq_false h15]
      have i15 : (n : Int) > 15 := by omega
      clear hr
      go_enter Try.func34, Try.ntmps34
      go_wp2_with fail
      refine (HR.out _).mono ?_
      rintro e w1 ⟨rfl, hb1⟩
      have g0 : w1.cell? ⟨w.heap.size, 0, none⟩ = some (.slice A n c) := (hb1.cell (p := ⟨w.heap.size, 0, none⟩) (by simp)).trans (by go_simp)
      go_wp2_with fail
      go_returns
      exact ⟨rfl, ((Below.refl _ _).alloc (Nat.le_refl _) _).trans (hb1.mono (by simp))⟩
theorem refmay_both (k cl : Int) (hb : tyB k cl) : (k = 0 ∧ cl = 0 ∧ mayR k cl = true) ∨ (((k == 0) = false ∨ (k = 0 ∧ (cl == 0) = false)) ∧ mayR k cl = mayT k cl) := by
  unfold mayR
  by_cases hk : k = 0
  · by_cases hc : cl = 0
    · exact .inl ⟨hk, hc, by simp [hk, hc]⟩
    · exact .inr ⟨.inr ⟨hk, by simpa using hc⟩, by simp [hc]⟩
  · exact .inr ⟨.inl (by simpa using hk), by simp [hk]⟩
set_option maxHeartbeats 1000000 in
theorem refmaysig_any (A : Option Addr) (n c B : Nat) (k cl : Int) (l : List Ty) (w : World) (hr : RV tyR w B A n l) (hB : B ≤ w.heap.size) (hn : n ≤ 281474976710656) (hb : tyB k cl) :
    Calls Try.prog 36 #[.agg #[.slice A n c, .int .u8 k, .int .u16 cl]] w fun e w' => e = .returned (.bool (maySB k cl l)) ∧ Below w.heap.size w w' := by
  have HR := Lib.hid (fun w => refmay_any k cl w hb.1.1 hb.2.1)
  have HL := Lib.hid hr.len
  have HV := Lib.hid hr
  unfold maySB
  rw [hr.len]
  have hmr := refmay_both k cl hb
  clear hr hb
  by_cases h15 : n ≤ 15
  · rw [decide_eq_true h15]
    have i15 : ¬ (n : Int) > 15 := by omega
    rcases hmr with ⟨rfl, rfl, hm⟩ | ⟨hk, hm⟩
    · rw [hm]
      clear hm HR
      go_enter Try.func36, Try.ntmps36
      go_wp2_with fail
      go_loopw [3] (fun i wr => ∃ j : Nat, j ≤ n ∧ i = .int .i64 j ∧ allMay (l.take j) = true ∧ w.heap.size < wr.heap.size ∧ wr.cell? ⟨w.heap.size, 0, none⟩ = some (.slice A n c) ∧ Below w.heap.size w wr) (fun i _ => n - (intOf i).toNat)
      case atStart => exact ⟨0, Nat.zero_le _, rfl, rfl, by simp, by go_simp, (Below.refl _ _).alloc (Nat.le_refl _) _⟩
      case round =>
        obtain ⟨j, hj, rfl, ha, hz, g0, hbr⟩ := hrel
        have HA := Lib.hid ha
        have HB := Lib.hid hbr
        clear ha hbr
        by_cases hlt : j < n
        · obtain ⟨b, off, rfl, hbb, q0, q1, qb⟩ := (HV.out.below HB.out hB).ty j hlt
          have HS := Lib.hid (allMay_snoc l j (by rw [HL.out]; exact hlt))
          have HN := Lib.hid (allMay_no l j (by rw [HL.out]; exact hlt))
          generalize l.getD j (0, 0) = p at q0 q1 qb HS HN
          obtain ⟨p1, p2⟩ := p
          simp only at q0 q1 qb
          have HM := Lib.hid (fun w => refmay_any p1 p2 w qb.1.1 qb.2.1)
          cases hm : mayT p1 p2
          · rw [hm] at HM
            have HX := Lib.hid (HN.out hm)
            clear hm HN HS
            go_wp2_with fail
            refine (HM.out _).mono ?_
            rintro e w2 ⟨rfl, hb2⟩
            go_wp2_with fail
            go_returns
            exact ⟨by rw [HX.out]; rfl, HB.out.trans (hb2.mono (Nat.le_of_lt hz))⟩
          · rw [hm] at HM
            have HX := Lib.hid hm
            clear hm HN
            go_wp2_with fail
            refine (HM.out _).mono ?_
            rintro e w2 ⟨rfl, hb2⟩
            go_wp2_with fail
            go_roundw
            case rel => exact ⟨j + 1, by omega, by go_num, by rw [HS.out, HA.out, HX.out]; rfl, Nat.lt_of_lt_of_le hz hb2.size, (hb2.cell (p := ⟨w.heap.size, 0, none⟩) hz).trans g0, HB.out.trans (hb2.mono (Nat.le_of_lt hz))⟩
            case measure => simp [intOf]; omega
        · obtain rfl : j = n := by omega
          go_wp2_with fail
          go_returns
          have hal : allMay l = true := by have := HA.out; rwa [List.take_of_length_le (by rw [HL.out]; omega)] at this
          exact ⟨by rw [hal]; rfl, HB.out⟩
    · rw [hm]
      cases hm2 : mayT k cl
      · rw [hm2] at HR
        clear hm hm2
        rcases hk with hk | ⟨rfl, hk⟩
        all_goals
          go_enter Try.func36, Try.ntmps36
          go_wp2_with fail
          refine (HR.out _).mono ?_
          rintro e w1 ⟨rfl, hb1⟩
          go_wp2_with fail
          go_returns
          exact ⟨rfl, ((Below.refl _ _).alloc (Nat.le_refl _) _).trans (hb1.mono (by simp))⟩
      · rw [hm2] at HR
        clear hm hm2
        rcases hk with hk | ⟨rfl, hk⟩
        all_goals
          go_enter Try.func36, Try.ntmps36
          go_wp2_with fail
          refine (HR.out _).mono ?_
          rintro e w1 ⟨rfl, hb1⟩
          have z1 : w.heap.size < w1.heap.size := by have := hb1.size; simp at this; omega
          have B1 : Below w.heap.size w w1 := ((Below.refl _ _).alloc (Nat.le_refl _) _).trans (hb1.mono (by simp))
          have g00 : w1.cell? ⟨w.heap.size, 0, none⟩ = some (.slice A n c) := (hb1.cell (p := ⟨w.heap.size, 0, none⟩) (by simp)).trans (by go_simp)
          clear hb1
          go_wp2_with fail
          go_loopw [3] (fun i wr => ∃ j : Nat, j ≤ n ∧ i = .int .i64 j ∧ allMay (l.take j) = true ∧ w.heap.size < wr.heap.size ∧ wr.cell? ⟨w.heap.size, 0, none⟩ = some (.slice A n c) ∧ Below w.heap.size w wr) (fun i _ => n - (intOf i).toNat)
          case atStart => exact ⟨0, Nat.zero_le _, rfl, rfl, z1, g00, B1⟩
          case round =>
            clear g00 z1 B1
            obtain ⟨j, hj, rfl, ha, hz, g0, hbr⟩ := hrel
            have HA := Lib.hid ha
            have HB := Lib.hid hbr
            clear ha hbr
            by_cases hlt : j < n
            · obtain ⟨b, off, rfl, hbb, q0, q1, qb⟩ := (HV.out.below HB.out hB).ty j hlt
              have HS := Lib.hid (allMay_snoc l j (by rw [HL.out]; exact hlt))
              have HN := Lib.hid (allMay_no l j (by rw [HL.out]; exact hlt))
              generalize l.getD j (0, 0) = p at q0 q1 qb HS HN
              obtain ⟨p1, p2⟩ := p
              simp only at q0 q1 qb
              have HM := Lib.hid (fun w => refmay_any p1 p2 w qb.1.1 qb.2.1)
              cases hm : mayT p1 p2
              · rw [hm] at HM
                have HX := Lib.hid (HN.out hm)
                clear hm HN HS
                go_wp2_with fail
                refine (HM.out _).mono ?_
                rintro e w2 ⟨rfl, hb2⟩
                go_wp2_with fail
                go_returns
                exact ⟨by rw [HX.out]; rfl, HB.out.trans (hb2.mono (Nat.le_of_lt hz))⟩
              · rw [hm] at HM
                have HX := Lib.hid hm
                clear hm HN
                go_wp2_with fail
                refine (HM.out _).mono ?_
                rintro e w2 ⟨rfl, hb2⟩
                go_wp2_with fail
                go_roundw
                case rel => exact ⟨j + 1, by omega, by go_num, by rw [HS.out, HA.out, HX.out]; rfl, Nat.lt_of_lt_of_le hz hb2.size, (hb2.cell (p := ⟨w.heap.size, 0, none⟩) hz).trans g0, HB.out.trans (hb2.mono (Nat.le_of_lt hz))⟩
                case measure => simp [intOf]; omega
            · obtain rfl : j = n := by omega
              go_wp2_with fail
              go_returns
              have hal : allMay l = true := by have := HA.out; rwa [List.take_of_length_le (by rw [HL.out]; omega)] at this
              exact ⟨by rw [hal]; rfl, HB.out⟩
  · rw [decide_eq_false h15]
    have i15 : (n : Int) > 15 := by omega
    rcases hmr with ⟨rfl, rfl, hm⟩ | ⟨hk, hm⟩
    · clear hm
      go_enter Try.func36, Try.ntmps36
      go_wp2_with fail
      go_returns
      exact ⟨by simp, (Below.refl _ _).alloc (Nat.le_refl _) _⟩
    · rw [hm]
      cases hm2 : mayT k cl
      all_goals
        rw [hm2] at HR
        clear hm hm2
        rcases hk with hk | ⟨rfl, hk⟩
        all_goals
          go_enter Try.func36, Try.ntmps36
          go_wp2_with fail
          refine (HR.out _).mono ?_
          rintro e w1 ⟨rfl, hb1⟩
          have g00 : w1.cell? ⟨w.heap.size, 0, none⟩ = some (.slice A n c) := (hb1.cell (p := ⟨w.heap.size, 0, none⟩) (by simp)).trans (by go_simp)
          go_wp2_with fail
          go_returns
          exact ⟨rfl, ((Below.refl _ _).alloc (Nat.le_refl _) _).trans (hb1.mono (by simp))⟩
end Go.Proofs.Ytihdfogcnghfaaa
