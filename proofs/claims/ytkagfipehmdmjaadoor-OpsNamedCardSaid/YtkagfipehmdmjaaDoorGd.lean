import Derived.Test.YtkagfipehmdmjaaDoorGc
set_option linter.unusedVariables false
namespace Go.Proofs.YtkagfipehmdmjaaDoor
open Go.RowKit
/-! All rows of the tables: number and name. -/
theorem Blk.cells7 {w : World} {g : Nat} {t : TypeId} {v0 v1 v2 v3 v4 v5 v6 : Value} (h : Blk w g #[v0, v1, v2, v3, v4, v5, v6] t) :
    w.cell? ⟨g, 0, none⟩ = some v0 ∧ w.cell? ⟨g, 1, none⟩ = some v1 ∧ w.cell? ⟨g, 2, none⟩ = some v2 ∧ w.cell? ⟨g, 3, none⟩ = some v3 ∧ w.cell? ⟨g, 4, none⟩ = some v4 ∧ w.cell? ⟨g, 5, none⟩ = some v5 ∧ w.cell? ⟨g, 6, none⟩ = some v6 :=
  ⟨h.cell 0, h.cell 1, h.cell 2, h.cell 3, h.cell 4, h.cell 5, h.cell 6⟩
abbrev Pair := Int × List UInt8
def famFrom (f : Fam) (n : Nat) : List Pair := ((List.range (cnt f.names)).drop n).map fun n => (numF f n, nameL f.names n)
def rowsFrom (i : Nat) : List Pair := ((List.range 40).drop i).flatMap fun i => famFrom (fam i) 0
def rowsC : List Pair := rowsFrom 0
theorem range_drop (n k : Nat) (h : k < n) : (List.range n).drop k = k :: (List.range n).drop (k + 1) := by
  rw [List.drop_eq_getElem_cons (by rwa [List.length_range]), List.getElem_range]
theorem famFrom_step (f : Fam) (n : Nat) (h : n < cnt f.names) : famFrom f n = (numF f n, nameL f.names n) :: famFrom f (n + 1) := by
  unfold famFrom
  rw [range_drop _ _ h, List.map_cons]
theorem famFrom_end (f : Fam) : famFrom f (cnt f.names) = [] := by
  unfold famFrom
  rw [List.drop_of_length_le (by rw [List.length_range]; exact Nat.le_refl _), List.map_nil]
theorem rowsFrom_step (i : Nat) (h : i < 40) : rowsFrom i = famFrom (fam i) 0 ++ rowsFrom (i + 1) := by
  unfold rowsFrom
  rw [range_drop _ _ h, List.flatMap_cons]
theorem rowsFrom_end : rowsFrom 40 = [] := by
  unfold rowsFrom
  rw [List.drop_of_length_le (by rw [List.length_range]; exact Nat.le_refl _), List.flatMap_nil]
theorem fam_ok : ∀ i, i < 40 → (fam i).names.length < 1000 ∧ cnt (fam i).names < 1000 ∧ 0 ≤ (fam i).skip ∧ (fam i).skip ≤ 1 := by
  decide +kernel
theorem fam_rg : ∀ i, i < 40 → 0 ≤ (fam i).first ∧ (fam i).first < 256 := by
  decide +kernel
/-- What a name is in a list of rows: the number, 0; or 0, 6. -/
def namedL : List Pair → List UInt8 → Int × Int
  | [], _ => (0, 6)
  | p :: r, s => if p.2 = s then (p.1, 0) else namedL r s
def NamedSaid (f : Nat) (s : List UInt8) (a : Int × Int) : Prop := ∀ w : World, Tab w → Calls Tryd.prog f #[.string ⟨s.toArray⟩] w fun e w' => e = .returned (.tuple #[.int .u8 a.1, .int .i64 a.2]) ∧ Below w.heap.size w w'
theorem named_any (s : List UInt8) : NamedSaid 13 s (namedL rowsC s) := by
  intro w T
  have HF := Lib.hid families_any
  have HA := Lib.hid at_any
  have HT := Lib.hid T
  clear T
  generalize hans : namedL rowsC s = ans
  have HA0 := Lib.hid hans
  clear hans
  obtain ⟨x, y⟩ := ans
  go_enter Tryd.func13, Tryd.ntmps13
  go_wp2_with fail
  refine (HF.out _).mono ?_
  rintro e w1 ⟨rfl, hw⟩
  obtain rfl := hw.symm
  go_wp2_with fail
  go_loopw [8] (fun i wr => ∃ k : Nat, k ≤ 40 ∧ i = .int .i64 k ∧ namedL (rowsFrom k) s = (x, y) ∧ Below w.heap.size w wr) (fun i _ => 40 - (intOf i).toNat)
  case atStart => exact ⟨0, Nat.zero_le _, rfl, HA0.out, Below.refl _ _⟩
  case round =>
    obtain ⟨k, hk, rfl, hn, hbr⟩ := hrel
    by_cases hlt : k < 40
    · have hst := rowsFrom_step k hlt
      rw [hst] at hn
      have ok := fam_ok k hlt
      have HA1 := HA.out k hlt
      have hr0 := rowsFrom_step
      generalize fam k = f at hn ok HA1
      obtain ⟨ok1, ok2, ok3, ok4⟩ := ok
      have HN := Lib.hid hn
      have HB := Lib.hid hbr
      have HA2 := Lib.hid HA1
      have HC := Lib.hid (fun w => count_any f w ok1)
      have HM := Lib.hid (fun n (h : n < cnt f.names) w => name_any f n w (Nat.lt_trans h ok2) ok1)
      have HU := Lib.hid (fun n (h : n < cnt f.names) w => number_any f n w (Nat.lt_trans h ok2) ok3 ok4)
      have HS := Lib.hid (famFrom_step f)
      have HE := Lib.hid (famFrom_end f)
      clear hn hbr HA1 hst ok1 ok3 ok4 hr0
      generalize cnt f.names = m at HC HM HU HS HE ok2
      obtain ⟨a0, a1, a2, a3, a4, a5, a6⟩ := f
      simp only [Fam.val] at HA2 HC HM HU
      go_wp2_with fail
      refine (HA2.out _ (HT.out.below' HB.out)).mono ?_
      rintro e w1 ⟨rfl, hb1⟩
      have HB1 := Lib.hid (HB.out.trans (hb1.mono HB.out.size))
      clear hb1
      go_wp2_with fail
      refine (HC.out _).mono ?_
      rintro e w2 ⟨rfl, hb2⟩
      obtain ⟨X2, z2, b2⟩ := Blk.box hb2
      have HB2 := Lib.hid (HB1.out.trans (b2.mono HB1.out.size))
      have HX2 := Lib.hid X2
      have HZ := Lib.hid (show w.heap.size ≤ w1.heap.size from HB1.out.size)
      clear X2 z2 b2 hb2
      go_wp2_with fail
      go_loopw [15] (fun i wr => ∃ n : Nat, n ≤ m ∧ i = .int .i64 n ∧ namedL (famFrom ⟨a0, a1, a2, a3, a4, a5, a6⟩ n ++ rowsFrom (k + 1)) s = (x, y) ∧ Blk wr w1.heap.size #[.int .u8 a0, .int .i64 a1, .int .u8 a2, .int .i64 a3, .int .i64 a4, .bool a5, .string ⟨a6.toArray⟩] 38 ∧ Below w.heap.size w wr) (fun i _ => m - (intOf i).toNat)
      case atStart => exact ⟨0, Nat.zero_le _, rfl, HN.out, HX2.out, HB2.out⟩
      case round =>
        obtain ⟨n, hn, rfl, hN, hX, hbr⟩ := hrel
        by_cases hlt2 : n < m
        · obtain ⟨g0, g1, g2, g3, g4, g5, g6⟩ := hX.cells7
          have zr := hX.lt
          rw [HS.out n hlt2, List.cons_append] at hN
          have HXr := Lib.hid hX
          have HBr := Lib.hid hbr
          have HM1 := Lib.hid (HM.out n hlt2)
          have HU1 := Lib.hid (HU.out n hlt2)
          unfold namedL at hN
          simp only at hN
          generalize nameL a6 n = nm at HM1 hN
          clear hX hbr
          go_wp2_with fail
          refine (HM1.out _).mono ?_
          rintro e w3 ⟨rfl, hb3⟩
          have X3 := HXr.out.below hb3
          obtain ⟨c0, c1, c2, c3, c4, c5, c6⟩ := X3.cells7
          have HX3 := Lib.hid X3
          have HB3 := Lib.hid (HBr.out.trans (hb3.mono HBr.out.size))
          clear X3 hb3
          by_cases hs : nm = s
          · rw [if_pos hs] at hN
            have HN3 := Lib.hid hN
            have hs2 : (nm == s) = true := by simpa using hs
            clear hN hs
            go_wp2_with fail
            refine (HU1.out _).mono ?_
            rintro e w4 ⟨rfl, hb4⟩
            have HB4 := Lib.hid (HB3.out.trans (hb4.mono HB3.out.size))
            clear hb4
            go_wp2_with fail
            go_returns
            have h3 := HN3.out
            simp only [Prod.mk.injEq] at h3
            obtain ⟨rfl, rfl⟩ := h3
            exact ⟨rfl, HB4.out⟩
          · rw [if_neg hs] at hN
            have HN3 := Lib.hid hN
            have hs2 : (nm == s) = false := by simpa using hs
            clear hN hs
            go_wp2_with fail
            go_roundw
            case rel => exact ⟨n + 1, by omega, by go_num, HN3.out, HX3.out, HB3.out⟩
            case measure => simp [intOf]; omega
        · obtain rfl : n = m := by omega
          rw [HE.out, List.nil_append] at hN
          have HNr := Lib.hid hN
          have HBr := Lib.hid hbr
          clear hN hbr hX
          go_wp2_with fail
          go_roundw
          case rel => exact ⟨k + 1, by omega, by go_num, HNr.out, HBr.out⟩
          case measure => simp [intOf]; omega
    · obtain rfl : k = 40 := by omega
      rw [rowsFrom_end] at hn
      have HNr := Lib.hid hn
      have HBr := Lib.hid hbr
      clear hn hbr
      go_wp2_with fail
      go_returns
      have h3 := HNr.out
      unfold namedL at h3
      simp only [Prod.mk.injEq] at h3
      obtain ⟨rfl, rfl⟩ := h3
      exact ⟨rfl, HBr.out⟩
/-! The numbers, in a row of the call's own. -/
def opR : Rec Int where
  enc x := [.int .u8 x]
  m := 1
  ok x := 0 ≤ x ∧ x < 256
  d := 0
  len _ := rfl
  one _ u hu := by simp at hu; subst hu; rfl
  pos := by decide
  okd := ⟨by decide, by decide⟩
theorem op_info : (Tryd.prog.info? 22).map (fun i => (i.zero, i.size, i.bytes)) = some (some (.int .u8 0), 1, 1) := by kernel_rfl
theorem opFit : Fit Tryd.prog opR 34 22 1 := fit_of (z := .int .u8 0) Tryd.underlying34 (m := 1) op_info rfl rfl (by decide)
def OO (w : World) (S : Nat → Prop) (A : Option Addr) (n c : Nat) (l : List Int) : Prop := OV opR 22 w S A n c l
theorem rv_lit (w : World) (x : Int) (h0 : 0 ≤ x) (h1 : x < 256) : RV opR (w.alloc (.cells #[.int .u8 x] 22)) (w.heap.size + 1) (some ⟨w.heap.size, 0, none⟩) 1 [x] := by
  refine ⟨rfl, allok_one ⟨h0, h1⟩, fun _ => ⟨w.heap.size, 0, rfl, by omega, fun i hi j hj => ?_⟩⟩
  obtain rfl : i = 0 := by omega
  obtain rfl : j = 0 := by have : j < 1 := hj; omega
  exact (Blk.new w #[.int .u8 x] _).cell 0
theorem numF_rg (f : Fam) (n : Nat) : 0 ≤ numF f n ∧ numF f n < 256 := by unfold numF; omega
def numsC : List Int := rowsC.map (·.1)
theorem numsC_len : numsC.length = 102 := by decide +kernel
def AllSaid (f : Nat) (l : List Int) : Prop := ∀ w : World, Tab w → Calls Tryd.prog f #[] w fun e w' => ∃ A c, e = .returned (.slice A l.length c) ∧ OO w' (Lt w.heap.size) A l.length c l ∧ Below w.heap.size w w'
set_option maxHeartbeats 1000000 in
theorem all_any : AllSaid 15 numsC := by
  intro w T
  have HF := Lib.hid families_any
  have HA := Lib.hid at_any
  have HT := Lib.hid T
  have HL := Lib.hid numsC_len
  clear T
  go_enter Tryd.func15, Tryd.ntmps15
  go_wp2_with fail
  refine (HF.out _).mono ?_
  rintro e w1 ⟨rfl, hw⟩
  obtain rfl := hw.symm
  go_wp2_with fail
  go_loopw [1, 6] (fun v i wr => ∃ (k N d : Nat) (A : Option Addr) (l : List Int), k ≤ 40 ∧ i = .int .i64 k ∧ v = .slice A N d ∧ OO wr (Lt w.heap.size) A N d l ∧ l ++ (rowsFrom k).map (·.1) = numsC ∧ Below w.heap.size w wr) (fun _ i _ => 40 - (intOf i).toNat)
  case atStart => exact ⟨0, 0, 0, none, [], Nat.zero_le _, rfl, rfl, OV.nil_, rfl, Below.refl _ _⟩
  case round =>
    obtain ⟨k, N, d, A, l, hk, rfl, rfl, hO, hn, hbr⟩ := hrel
    by_cases hlt : k < 40
    · have hst := rowsFrom_step k hlt
      rw [hst] at hn
      have ok := fam_ok k hlt
      have HA1 := HA.out k hlt
      generalize fam k = f at hn ok HA1
      obtain ⟨ok1, ok2, ok3, ok4⟩ := ok
      have HN := Lib.hid hn
      have HB := Lib.hid hbr
      have HO := Lib.hid hO
      have HA2 := Lib.hid HA1
      have HC := Lib.hid (fun w => count_any f w ok1)
      have HU := Lib.hid (fun n (h : n < cnt f.names) w => number_any f n w (Nat.lt_trans h ok2) ok3 ok4)
      have HS := Lib.hid (famFrom_step f)
      have HE := Lib.hid (famFrom_end f)
      clear hn hbr hO HA1 hst ok1 ok3 ok4
      generalize cnt f.names = m at HC HU HS HE ok2
      obtain ⟨a0, a1, a2, a3, a4, a5, a6⟩ := f
      simp only [Fam.val] at HA2 HC HU
      go_wp2_with fail
      refine (HA2.out _ (HT.out.below' HB.out)).mono ?_
      rintro e w1 ⟨rfl, hb1⟩
      have HB1 := Lib.hid (HB.out.trans (hb1.mono HB.out.size))
      have HO1 := Lib.hid (HO.out.below hb1)
      clear hb1
      go_wp2_with fail
      refine (HC.out _).mono ?_
      rintro e w2 ⟨rfl, hb2⟩
      obtain ⟨X2, z2, b2⟩ := Blk.box hb2
      have HB2 := Lib.hid (HB1.out.trans (b2.mono HB1.out.size))
      have HO2 := Lib.hid (OV.below (OV.more HO1.out (S' := Also (Lt w.heap.size) w1.heap.size) (by rintro j (h | rfl); exact .inl h; exact .inr (Nat.le_refl _))) b2)
      have HX2 := Lib.hid X2
      have hz := HB1.out.size
      clear X2 z2 b2 hb2
      go_wp2_with fail
      go_loopw [1, 13] (fun v i wr => ∃ (n N d : Nat) (A : Option Addr) (l : List Int), n ≤ m ∧ i = .int .i64 n ∧ v = .slice A N d ∧ OO wr (Also (Lt w.heap.size) w1.heap.size) A N d l ∧ l ++ (famFrom ⟨a0, a1, a2, a3, a4, a5, a6⟩ n ++ rowsFrom (k + 1)).map (·.1) = numsC ∧ Blk wr w1.heap.size #[.int .u8 a0, .int .i64 a1, .int .u8 a2, .int .i64 a3, .int .i64 a4, .bool a5, .string ⟨a6.toArray⟩] 38 ∧ Below w.heap.size w wr) (fun _ i _ => m - (intOf i).toNat)
      case atStart => exact ⟨0, N, d, A, l, Nat.zero_le _, rfl, rfl, HO2.out, HN.out, HX2.out, HB2.out⟩
      case round =>
        obtain ⟨n, N, d, A, l, hn, rfl, rfl, hO, hN, hX, hbr⟩ := hrel
        by_cases hlt2 : n < m
        · obtain ⟨g0, g1, g2, g3, g4, g5, g6⟩ := hX.cells7
          have zr := hX.lt
          rw [HS.out n hlt2, List.cons_append, List.map_cons] at hN
          have rg := numF_rg ⟨a0, a1, a2, a3, a4, a5, a6⟩ n
          have HXr := Lib.hid hX
          have HBr := Lib.hid hbr
          have HOr := Lib.hid hO
          have HU1 := Lib.hid (HU.out n hlt2)
          have HNr := Lib.hid hN
          clear hX hbr hO hN
          simp only at HNr
          generalize numF ⟨a0, a1, a2, a3, a4, a5, a6⟩ n = x at HU1 HNr rg
          go_wp2_with fail
          refine (HU1.out _).mono ?_
          rintro e w3 ⟨rfl, hb3⟩
          have HX3 := Lib.hid (HXr.out.below hb3)
          have HB3 := Lib.hid (HBr.out.trans (hb3.mono HBr.out.size))
          have HO3 := Lib.hid (OV.below HOr.out hb3)
          have z3 := HX3.out.lt
          have hN1 : N + 1 ≤ 102 := by
            have h1 := congrArg List.length HNr.out
            rw [HL.out, List.length_append, List.length_cons, HOr.out.1] at h1
            omega
          have hx2 : l ++ [x] ++ (famFrom ⟨a0, a1, a2, a3, a4, a5, a6⟩ (n + 1) ++ rowsFrom (k + 1)).map (·.1) = numsC := by
            rw [List.append_assoc]; exact HNr.out
          have HN2 := Lib.hid hx2
          clear hb3 HNr hx2
          go_wp2_with (at_builtin; refine wpList_appV opFit rfl _ _ rfl (Also (Lt w.heap.size) w1.heap.size) A _ d _ rfl (OV.alloc HO3.out _) _ _ 1 1 [x] rfl (rv_lit w3 x rg.1 rg.2) (N + 1) rfl (l ++ [x]) rfl (by omega) (by rintro j (h | rfl); (have h2 : j < w.heap.size := h); simp; omega; simp; omega) ?_; intro A4 d4 w4 ho4 hb4)
          have HX4 := Lib.hid ((HX3.out.alloc _).kp hb4 (also_r _))
          have HB4 := Lib.hid ((HB3.out.alloc (Nat.le_trans hz (Nat.le_of_lt z3)) _).trans (hb4.below (B := w.heap.size) (fun j hj => .inl hj)))
          have HO4 := Lib.hid ho4
          clear ho4 hb4
          go_roundw
          case rel => exact ⟨n + 1, N + 1, d4, A4, l ++ [x], by omega, by go_num, rfl, HO4.out, HN2.out, HX4.out, HB4.out⟩
          case measure => simp [intOf]; omega
        · obtain rfl : n = m := by omega
          rw [HE.out, List.nil_append] at hN
          have HNr := Lib.hid hN
          have HBr := Lib.hid hbr
          have HOr := Lib.hid (OV.less hO (S' := Lt w.heap.size) (fun j h => .inl h))
          clear hN hbr hX hO
          go_wp2_with fail
          go_roundw
          case rel => exact ⟨k + 1, N, d, A, l, by omega, by go_num, rfl, HOr.out, HNr.out, HBr.out⟩
          case measure => simp [intOf]; omega
    · obtain rfl : k = 40 := by omega
      rw [rowsFrom_end, List.map_nil, List.append_nil] at hn
      have HNr := Lib.hid hn
      have HBr := Lib.hid hbr
      have HOr := Lib.hid hO
      clear hn hbr hO
      go_wp2_with fail
      go_returns
      have hl := HOr.out.1
      rw [HNr.out] at hl
      have ho := HOr.out
      rw [HNr.out] at ho
      subst hl
      exact ⟨A, d, rfl, ho, HBr.out⟩
end Go.Proofs.YtkagfipehmdmjaaDoor
