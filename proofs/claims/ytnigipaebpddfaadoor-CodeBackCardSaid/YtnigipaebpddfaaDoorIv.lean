import Derived.Test.YtnigipaebpddfaaDoorIu
import Derived.Test.YtnigipaebpddfaaDoorIq
set_option linter.unusedVariables false
set_option maxRecDepth 100000
namespace Go.Proofs.YtnigipaebpddfaaDoor
open Go.RowKit
/-! CodeCuts: the walk. -/
theorem IN.rows {w : World} {m n c : Nat} {A : Option Addr} {rs : List RI} {l : List Ins} (h : IN w m A n c rs l) (hl : ∀ x ∈ l, x.tab.length ≤ 65536 ∧ x.mat.length ≤ 65536) : ∀ i, i < n → (rs.getD i RI.zero).tn ≤ 70000 ∧ (rs.getD i RI.zero).mn ≤ 70000 := by
  intro i hi
  have h1 := (h.each i hi).tab.len
  have h2 := (h.each i hi).mat.len
  have hm : l.getD i Ins.zero ∈ l := by
    rw [List.getD_eq_getElem?_getD, List.getElem?_eq_getElem (by rw [h.len]; exact hi)]
    exact List.getElem_mem _
  have := hl _ hm
  omega
theorem readF_rows (l : List Int) (hr : rng l) : ∀ (f i : Nat) (M : List Ins), readF l f i = (0, M) → ∀ x ∈ M, x.tab.length ≤ 65536 ∧ x.mat.length ≤ 65536 := by
  intro f
  induction f with
  | zero =>
    intro i M h x hx
    have : M = [] := (congrArg Prod.snd h).symm
    subst this
    cases hx
  | succ f ih =>
    intro i M h x hx
    by_cases hi : i < l.length
    · obtain ⟨he, M', hM, rfl⟩ := readF_cons l f i M hi h
      have ok := insE_ok l i hr hi he
      rcases List.mem_cons.1 hx with rfl | hx
      · refine ⟨ok.2.2.1, ?_⟩
        obtain ⟨k, cnt, b, b2, h0, hk, h1, hb, hc, h3, hb2, hck, hee⟩ := insE_inv l i hr he
        have hbd := headR_bd k b (by rw [← hb]; exact rng_take (rng_drop hr _) _)
        rw [hee]
        show (matC k b2 cnt).length ≤ 65536
        unfold matC
        split <;> simp
        omega
      · exact ih _ M' hM x hx
    · have e : readF l (f + 1) i = (0, []) := by unfold readF; rw [if_neg hi]
      rw [e] at h
      have : M = [] := (congrArg Prod.snd h).symm
      subst this
      cases hx
theorem readC_rows (l : List Int) (hr : rng l) : ∀ x ∈ (readC l).2, x.tab.length ≤ 65536 ∧ x.mat.length ≤ 65536 := by
  by_cases h : (readC l).1 = 0
  · obtain ⟨_, _, hF, _⟩ := readC_inv l h
    exact readF_rows l hr _ _ _ hF
  · rw [readC_err l h]
    intro x hx
    cases hx
theorem readC_len (l : List Int) (hr : rng l) : (readC l).2.length ≤ 2000 := by
  by_cases h : (readC l).1 = 0
  · obtain ⟨h2, _, hF, _⟩ := readC_inv l h
    have hb : ∀ (f i : Nat) (M : List Ins), readF l f i = (0, M) → i + M.length ≤ l.length ∨ M.length = 0 := by
      intro f
      induction f with
      | zero => intro i M h; have : M = [] := (congrArg Prod.snd h).symm; subst this; exact .inr rfl
      | succ f ih =>
        intro i M h
        by_cases hi : i < l.length
        · obtain ⟨he, M', hM, rfl⟩ := readF_cons l f i M hi h
          have ok := insE_ok l i hr hi he
          rcases ih _ M' hM with h3 | h3
          · left; rw [List.length_cons]; omega
          · left; rw [List.length_cons]; omega
        · have e : readF l (f + 1) i = (0, []) := by unfold readF; rw [if_neg hi]
          rw [e] at h
          have : M = [] := (congrArg Prod.snd h).symm
          subst this
          exact .inr rfl
    rcases hb _ _ _ hF with h3 | h3 <;> omega
  · rw [readC_err l h]
    simp
set_option maxHeartbeats 4000000 in
theorem walk_cuts (A : Option Addr) (n c cn : Nat) (l : List Int) (w : World) (T : TE w) (hf : n ≤ 140737488355328) (hn : n ≤ c) (hr : Rd w w.heap.size A n l) (hcn : cn < 65536) :
    Calls Tryd.prog 5 #[.slice A n c, .int .u16 cn] w fun e w' => e = .returned (.bool true) ∧ Below w.heap.size w w' := by
  have hl := hr.len
  have hrg := hr.rg
  have HA := Lib.hid (read_any l w w.heap.size A n c T hr hn (by omega) (Nat.le_refl _))
  have HT := Lib.hid T
  have HW := Lib.hid works_any
  have hinv := readC_inv l
  by_cases he : (readC l).1 = 0
  · obtain ⟨_, hn0, _, _⟩ := hinv he
    obtain ⟨m, hm⟩ : ∃ m, cn % n = m := ⟨_, rfl⟩
    have hmn : m < n := by rw [← hm]; exact Nat.mod_lt _ (by omega)
    have htm : ((cn : Int)).tmod (n : Int) = (m : Int) := by rw [← hm]; exact Int.ofNat_tmod _ _ |>.symm ▸ rfl
    have hem : ((cn : Int)) % (n : Int) = (m : Int) := by rw [← hm]; exact (Int.natCast_emod _ _).symm
    have hz0 : ¬ (n : Int) = 0 := by omega
    have hz1 : ((n : Int) == 0) = false := by simpa using hz0
    have hcut := fun W => run_cutB W A n c m (by omega)
    have HR2 := Lib.hid (hr.cut (A' := A) (i := 0) (m := m) (by omega) (fun _ => by cases A <;> simp [Addr.add]))
    simp only [List.drop_zero] at HR2
    have HCL := Lib.hid (cuts_list l hrg m (by omega) he)
    have HER := Lib.hid (readC_err (l.take m))
    have HRW := Lib.hid (readC_rows (l.take m) (rng_take hrg m))
    have hLb := readC_len l hrg
    have hMb := readC_len (l.take m) (rng_take hrg m)
    have HRC := Lib.hid (fun W (T : TE W) (h : Rd W w.heap.size A m (l.take m)) (hb : w.heap.size ≤ W.heap.size) => read_any (l.take m) W w.heap.size A m m T h (Nat.le_refl _) (by omega) hb)
    generalize readC (l.take m) = R2 at HCL HER HRW HRC hMb
    rw [he] at HA
    generalize (readC l).2 = L at HA HCL hLb
    obtain ⟨e2, M⟩ := R2
    simp only at HCL HER HRW HRC hMb
    clear T hr hinv hm he
    by_cases h2 : e2 = 0
    · subst h2
      obtain ⟨q1, q2, q3⟩ := HCL.out rfl
      have HQ := Lib.hid q1
      have q2' : (M.length : Int) < (L.length : Int) := by omega
      go_enter Tryd.func5, Tryd.ntmps5
      go_wp2_with fail
      refine HA.out.mono ?_
      rintro e w1 ⟨A1, c1, r1, rfl, N1, b1⟩
      have HN1 := Lib.hid N1
      have HB := Lib.hid b1
      have HT := Lib.hid (HT.out.below' b1)
      have hz1' := b1.size
      have HR2 := Lib.hid (HR2.out.below b1 (Nat.le_refl _))
      clear N1 b1
      go_wp2_with fail
      refine (HRC.out _ HT.out HR2.out hz1').mono ?_
      rintro e w2 ⟨A2, c2, r2, rfl, N2, b2⟩
      have HN1 := Lib.hid (HN1.out.below b2)
      have HB := Lib.hid (HB.out.trans (b2.mono hz1'))
      have HT := Lib.hid (HT.out.below' b2)
      have HRS := Lib.hid (N2.rows HRW.out)
      have HN2 := Lib.hid N2
      have hz2 := HB.out.size
      clear N2 b2 hcut htm hem
      have HAT := Lib.hid (at_of L m w2 A1 L.length c1 w2.heap.size r1 HN1.out.iv (Nat.le_refl _) (by omega))
      rw [q3] at HAT
      have hcI := fun W => run_cutI W A1 L.length c1 M.length (by have := HN1.out.rv.le; omega)
      go_wp2_with fail
      refine HAT.out.mono ?_
      rintro e w3 ⟨rfl, b3⟩
      have HIV1 : Hid (IV w3 w2.heap.size A1 M.length (r1.take M.length) M) := Lib.hid (by
        have := (HN1.out.iv.take (k := M.length) (by omega)).below b3 (Nat.le_refl _)
        rwa [HQ.out] at this)
      have HIV2 := Lib.hid (HN2.out.iv.below b3 (Nat.le_refl _))
      have HB := Lib.hid (HB.out.trans (b3.mono hz2))
      have HT := Lib.hid (HT.out.below' b3)
      have hz3 := b3.size
      clear b3
      go_wp2_with fail
      refine (instrs_eq M w3 A2 A1 M.length c2 M.length w2.heap.size w2.heap.size r2 (r1.take M.length) HIV2.out HIV1.out hz3 hz3 (by omega) HRS.out).mono ?_
      rintro e w4 ⟨rfl, b4⟩
      have HB := Lib.hid (HB.out.trans (b4.mono HB.out.size))
      have HT := Lib.hid (HT.out.below' b4)
      clear b4
      go_wp2_with fail
      refine (HW.out _ HT.out).mono ?_
      rintro e w5 ⟨rfl, b5⟩
      have HB := Lib.hid (HB.out.trans (b5.mono HB.out.size))
      clear b5
      go_wp2_with fail
      go_returns
      exact ⟨rfl, HB.out⟩
    · have hM := HER.out h2
      subst hM
      have h21 : (e2 != 0) = true := by simpa using h2
      clear h2
      go_enter Tryd.func5, Tryd.ntmps5
      go_wp2_with fail
      refine HA.out.mono ?_
      rintro e w1 ⟨A1, c1, r1, rfl, N1, b1⟩
      have HB := Lib.hid b1
      have HT := Lib.hid (HT.out.below' b1)
      have hz1' := b1.size
      have HR2 := Lib.hid (HR2.out.below b1 (Nat.le_refl _))
      clear N1 b1
      go_wp2_with fail
      refine (HRC.out _ HT.out HR2.out hz1').mono ?_
      rintro e w2 ⟨A2, c2, r2, rfl, N2, b2⟩
      have HB := Lib.hid (HB.out.trans (b2.mono hz1'))
      have HT := Lib.hid (HT.out.below' b2)
      clear N2 b2 hcut htm hem
      go_wp2_with fail
      refine (HW.out _ HT.out).mono ?_
      rintro e w5 ⟨rfl, b5⟩
      have HB := Lib.hid (HB.out.trans (b5.mono HB.out.size))
      clear b5
      go_wp2_with fail
      go_returns
      exact ⟨rfl, HB.out⟩
  · generalize readC l = R at HA he
    obtain ⟨e1, L⟩ := R
    simp only at HA he
    have h1 : (e1 != 0) = true := by simpa using he
    clear T hr hinv he
    go_enter Tryd.func5, Tryd.ntmps5
    go_wp2_with fail
    refine HA.out.mono ?_
    rintro e w1 ⟨A1, c1, r1, rfl, N1, b1⟩
    have HB := Lib.hid b1
    have HT := Lib.hid (HT.out.below' b1)
    clear N1 b1
    go_wp2_with fail
    refine (HW.out _ HT.out).mono ?_
    rintro e w5 ⟨rfl, b5⟩
    have HB := Lib.hid (HB.out.trans (b5.mono HB.out.size))
    clear b5
    go_wp2_with fail
    go_returns
    exact ⟨rfl, HB.out⟩
end Go.Proofs.YtnigipaebpddfaaDoor
