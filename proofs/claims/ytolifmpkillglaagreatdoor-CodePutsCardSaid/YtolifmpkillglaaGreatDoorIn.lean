import Derived.Test.YtolifmpkillglaaGreatDoorIm
set_option linter.unusedVariables false
set_option maxRecDepth 100000
namespace Go.Proofs.YtolifmpkillglaaGreatDoor
open Go.RowKit
/-! Read: the contract. -/
/-- The tables and errForm lie as they were laid. -/
structure TE (w : World) : Prop where
  tab : Tab w
  ef : ∃ b, EF w b
section
variable {w w' : World}
theorem TE.sz (h : TE w) : 2 + 1 ≤ w.heap.size := h.tab.2.2
theorem TE.below (h : TE w) {B : Nat} (hb : Below B w w') (hB : 2 + 1 ≤ B) : TE w' := ⟨h.tab.below hb hB, by
  obtain ⟨b, hb1⟩ := h.ef
  exact ⟨b, (hb.cell (p := ⟨0, 0, none⟩) (by show 0 < B; omega)).trans hb1⟩⟩
theorem TE.below' (h : TE w) (hb : Below w.heap.size w w') : TE w' := h.below hb h.sz
theorem TE.alloc (h : TE w) (o : Obj) : TE (w.alloc o) := h.below' ((Below.refl _ _).alloc (Nat.le_refl _) o)
theorem TE.drewN (h : TE w) (n : Nat) : TE (w.drewN n) := ⟨h.tab.drewN n, h.ef⟩
end
theorem readL_c (l : List Int) : (readL l).1 = 0 ∨ ((readL l).1 = 4 ∧ (readL l).2 = []) ∨ ((readL l).1 = 5 ∧ (readL l).2 = []) := by
  have hF : ∀ f i, (readF l f i).1 = 0 ∨ (readF l f i).1 = 4 ∨ (readF l f i).1 = 5 := by
    intro f
    induction f with
    | zero => intro i; exact .inl rfl
    | succ f ih =>
      intro i
      unfold readF
      split
      · have h := insE_e l i
        split
        · exact h
        · have h2 := ih (insE l i).2.2
          split
          · exact h2
          · exact .inl rfl
      · exact .inl rfl
  unfold readL
  split
  · exact .inr (.inr ⟨rfl, rfl⟩)
  · have h := hF l.length 0
    split
    · rename_i h1 h2
      rcases h with h | h | h
      · exact absurd h h2
      · exact .inr (.inl ⟨h, rfl⟩)
      · exact .inr (.inr ⟨h, rfl⟩)
    · split
      · exact .inl rfl
      · exact .inr (.inr ⟨rfl, rfl⟩)
def ReadSaid (f : Nat) (l : List Int) (R : Int × List Ins) : Prop := ∀ (w : World) (B : Nat) (A : Option Addr) (n c : Nat), TE w → Rd w B A n l → n ≤ c → n ≤ 281474976710656 → B ≤ w.heap.size →
  Calls Tryz.prog f #[.slice A n c] w fun e w' => ∃ A' c' rs, e = .returned (.tuple #[.slice A' R.2.length c', .int .i64 R.1]) ∧ IN w' w.heap.size A' R.2.length c' rs R.2 ∧ Below w.heap.size w w'
theorem readC_3 (l : List Int) (h : 2000 < l.length) : readC l = (3, []) := by unfold readC; rw [if_pos h]
theorem readC_l (l : List Int) (h : ¬ 2000 < l.length) : readC l = readL l := by unfold readC; rw [if_neg h]
set_option maxHeartbeats 1000000 in
theorem read_any (l : List Int) : ReadSaid 10 l (readC l) := by
  intro w B A n c T hr hn hc hB
  have hl := hr.len
  by_cases h2 : 2000 < n
  · rw [readC_3 l (by omega)]
    have h3 : (2000 : Int) < n := by omega
    have h4 : decide ((n : Int) > 2000) = true := by rw [decide_eq_true_eq]; omega
    clear T hr
    go_enter Tryz.func10, Tryz.ntmps10
    go_wp2_with fail
    go_returns
    exact ⟨none, 0, [], rfl, IN.nil _ _, Below.refl _ _⟩
  · rw [readC_l l (by omega)]
    have h3 : ¬ (2000 : Int) < n := by omega
    have h4 : decide ((n : Int) > 2000) = false := by rw [decide_eq_false_iff_not]; omega
    have HA := Lib.hid (all_reads l w B A n c T.tab hr hn (by omega) hB)
    have HC := Lib.hid (readL_c l)
    have HT := Lib.hid T
    have hsz := T.sz
    generalize readL l = R at HA HC ⊢
    obtain ⟨er, L⟩ := R
    simp only at HA HC ⊢
    clear hr T
    rcases HC.out with rfl | ⟨rfl, rfl⟩ | ⟨rfl, rfl⟩
    · go_enter Tryz.func10, Tryz.ntmps10
      go_wp2_with fail
      refine HA.out.mono ?_
      rintro e w1 ⟨v, A', c', rs, rfl, ev, N1, b1⟩
      have hv : v = .nilIface := by
        rcases ev with ⟨_, h⟩ | ⟨h, _⟩ | ⟨h, _⟩
        · exact h
        · exact absurd h (by decide)
        · exact absurd h (by decide)
      subst hv
      obtain ⟨b, hef⟩ := (HT.out.below' b1).ef
      have HIS := Lib.hid (is_nil b w1)
      unfold EF at hef
      have HN := Lib.hid N1
      have HB := Lib.hid b1
      clear N1 b1 ev
      go_wp2_with fail
      refine HIS.out.mono ?_
      rintro e w2 ⟨rfl, b2⟩
      have HN := Lib.hid (HN.out.below b2)
      have HB := Lib.hid (HB.out.trans (b2.mono HB.out.size))
      clear b2 hef
      go_wp2_with fail
      go_returns
      exact ⟨A', c', rs, rfl, HN.out, HB.out⟩
    · go_enter Tryz.func10, Tryz.ntmps10
      go_wp2_with fail
      refine HA.out.mono ?_
      rintro e w1 ⟨v, A', c', rs, rfl, ev, N1, b1⟩
      have hv : v = .iface 31 (.int .i64 4) := by
        rcases ev with ⟨h, _⟩ | ⟨h, _⟩ | ⟨_, h⟩
        · exact absurd h (by decide)
        · exact absurd h (by decide)
        · exact h
      subst hv
      obtain ⟨b, hef⟩ := (HT.out.below' b1).ef
      have HIS := Lib.hid (is_short b w1)
      unfold EF at hef
      have HB := Lib.hid b1
      clear N1 b1 ev
      go_wp2_with fail
      refine HIS.out.mono ?_
      rintro e w2 ⟨rfl, b2⟩
      have HB := Lib.hid (HB.out.trans (b2.mono HB.out.size))
      clear b2 hef
      go_wp2_with fail
      go_returns
      exact ⟨none, 0, [], rfl, IN.nil _ _, HB.out⟩
    · go_enter Tryz.func10, Tryz.ntmps10
      go_wp2_with fail
      refine HA.out.mono ?_
      rintro e w1 ⟨v, A', c', rs, rfl, ev, N1, b1⟩
      obtain ⟨f9, why9, rfl⟩ : ∃ f9 why9, v = misV f9 why9 := by
        rcases ev with ⟨h, _⟩ | ⟨_, h⟩ | ⟨h, _⟩
        · exact absurd h (by decide)
        · exact h
        · exact absurd h (by decide)
      obtain ⟨b, hef⟩ := (HT.out.below' b1).ef
      have HIS := Lib.hid (is_mis f9 why9 b w1 hef (by have := b1.size; omega))
      unfold EF at hef
      unfold misV at HIS ⊢
      have HB := Lib.hid b1
      clear N1 b1 ev
      go_wp2_with fail
      refine HIS.out.mono ?_
      rintro e w2 ⟨rfl, b2⟩
      have HB := Lib.hid (HB.out.trans (b2.mono HB.out.size))
      clear b2 hef
      go_wp2_with fail
      go_returns
      exact ⟨none, 0, [], rfl, IN.nil _ _, HB.out⟩
end Go.Proofs.YtolifmpkillglaaGreatDoor
