import Derived.Test.YtihdfogcnghfaaaFb
import Derived.Test.YtihdfogcnghfaaaDh
set_option linter.unusedVariables false
namespace Go.Proofs.Ytihdfogcnghfaaa
open Go.RowKit
/-! A type's bytes. -/
def encT (k c : Int) : List Int := if clsd k then dig k 1 ++ dig c 2 else dig k 1
theorem encT_len (k c : Int) : (encT k c).length ≤ 3 ∧ 1 ≤ (encT k c).length := by
  unfold encT
  cases clsd k <;> simp [dig_1, dig_2]
theorem encT_rng (k c : Int) : rng (encT k c) := by
  unfold encT
  cases clsd k
  · exact dig_rng _ _
  · exact rng_app (dig_rng _ _) (dig_rng _ _)
theorem tappnum_any (S : Nat → Prop) (A : Option Addr) (n c : Nat) (l : List Int) (N : Int) (s : Nat) (w : World) (hob : OS w S A n c l) (hS : ∀ k, S k → k < w.heap.size) (ok : okN N s) (hn : n ≤ 70000) (n0 : 0 ≤ N) :
    Calls Try.prog 35 #[.slice A n c, .int .u32 N, .int .i64 s] w fun e w' => ∃ A' c', e = .returned (.slice A' ((n + s : Nat)) c') ∧ OS w' S A' (n + s) c' (l ++ dig N s) ∧ Kp S w w' := by
  have P := Lib.hid (put_ok N s w n0 ok)
  have s1 : s ≤ 4 := by unfold okN at ok; omega
  have HO := Lib.hid hob
  have HS := Lib.hid hS
  clear hob ok hS
  go_enter Try.func35, Try.ntmps35
  go_wp2_with fail
  refine P.out.mono ?_
  rintro e w1 ⟨A1, c1, rfl, ho1, hb1⟩
  go_wp2_with (at_builtin; refine wpList_appS rfl _ _ rfl S A n c l rfl (HO.out.below hb1) _ A1 s c1 (dig N s) rfl ho1.rd (n + s) rfl _ rfl (by omega) (fun k hk => Nat.lt_of_lt_of_le (HS.out k hk) hb1.size) ?_; intro A2 c2 w2 ho2 hb2)
  go_returns
  exact ⟨A2, c2, rfl, ho2, (Kp.of_below hb1 HS.out).trans hb2⟩
theorem apptype_any (S : Nat → Prop) (A : Option Addr) (n c : Nat) (l : List Int) (k cl : Int) (w : World) (hob : OS w S A n c l) (hS : ∀ k, S k → k < w.heap.size) (hn : n ≤ 60000) (k0 : 0 ≤ k) (k1 : k < 256) (c0 : 0 ≤ cl) (c1 : cl < 65536) :
    Calls Try.prog 32 #[.slice A n c, .agg #[.int .u8 k, .int .u16 cl]] w fun e w' => ∃ A' c', e = .returned (.slice A' ((n + (encT k cl).length : Nat)) c') ∧ OS w' S A' (n + (encT k cl).length) c' (l ++ encT k cl) ∧ Kp S w w' := by
  have H1 := Lib.hid (fun S A n c l w hob hS hn => tappnum_any S A n c l k 1 w hob hS (.inl ⟨rfl, by omega⟩) hn k0)
  have H2 := Lib.hid (fun S A n c l w hob hS hn => tappnum_any S A n c l cl 2 w hob hS (.inr (.inl ⟨rfl, by omega⟩)) hn c0)
  have HC := Lib.hid (fun w => hasc_any k w k0)
  have HO := Lib.hid hob
  have HS := Lib.hid hS
  clear hob hS
  have ha := also_lt HS.out (.cells #[.int .u8 k, .int .u16 cl] 25)
  have HA := Lib.hid ha
  clear ha
  unfold encT
  cases hk : clsd k
  · rw [hk] at HC
    clear hk
    go_enter Try.func32, Try.ntmps32
    go_wp2_with fail
    refine (H1.out _ A n c l _ (HO.out.also _) HA.out (by omega)).mono ?_
    rintro e w1 ⟨A1, d1, rfl, ho1, hb1⟩
    have g0 : w1.cell? ⟨w.heap.size, 0, none⟩ = some (.int .u8 k) := (hb1.cell (p := ⟨w.heap.size, 0, none⟩) (also_r _)).trans (by go_simp)
    go_wp2_with ((refine (HC.out _).mono ?_); rintro e w' ⟨rfl, rfl⟩)
    go_returns
    exact ⟨A1, d1, by simp [dig_1], by simpa [dig_1] using ho1.less (also_l _), ((Kp.refl _ _).alloc HS.out _).trans (hb1.mono (also_l _))⟩
  · rw [hk] at HC
    clear hk
    go_enter Try.func32, Try.ntmps32
    go_wp2_with fail
    refine (H1.out _ A n c l _ (HO.out.also _) HA.out (by omega)).mono ?_
    rintro e w1 ⟨A1, d1, rfl, ho1, hb1⟩
    have g0 : w1.cell? ⟨w.heap.size, 0, none⟩ = some (.int .u8 k) := (hb1.cell (p := ⟨w.heap.size, 0, none⟩) (also_r _)).trans (by go_simp)
    have g1 : w1.cell? ⟨w.heap.size, 1, none⟩ = some (.int .u16 cl) := (hb1.cell (p := ⟨w.heap.size, 1, none⟩) (also_r _)).trans (by go_simp)
    go_wp2_with ((refine (HC.out _).mono ?_); rintro e w' ⟨rfl, rfl⟩)
    refine (H2.out _ A1 (n + 1) d1 _ _ ho1 (hb1.lt HA.out) (by omega)).mono ?_
    rintro e w2 ⟨A2, d2, rfl, ho2, hb2⟩
    go_wp2_with fail
    go_returns
    exact ⟨A2, d2, by simp [dig_1, dig_2, Nat.add_assoc], by simpa [dig_1, dig_2, Nat.add_assoc] using ho2.less (also_l _), ((Kp.refl _ _).alloc HS.out _).trans ((hb1.trans hb2).mono (also_l _))⟩
/-! Put. -/
def TPutSaid (f : Nat) (k c : Int) (p : List Int) (E : Int) : Prop := ∀ w : World,
  Calls Try.prog f #[.agg #[.int .u8 k, .int .u16 c]] w fun e w' => ∃ A c', e = .returned (.tuple #[.slice A p.length c', .int .i64 E]) ∧ OS w' (Lt w.heap.size) A p.length c' p ∧ Below w.heap.size w w'
def tyB (k c : Int) : Prop := (0 ≤ k ∧ k < 256) ∧ (0 ≤ c ∧ c < 65536)
def putP (k c : Int) : List Int := if mayT k c then encT k c else []
def putE (k c : Int) : Int := if mayT k c then 0 else 2
theorem tput_any (k c : Int) (h : tyB k c) : TPutSaid 8 k c (putP k c) (putE k c) := by
  intro w
  obtain ⟨⟨k0, k1⟩, c0, c1⟩ := h
  have HM := Lib.hid (fun w => may_any k c w k0 c0)
  have HA := Lib.hid (fun S w hS => apptype_any S none 0 0 [] k c w OS.nil_ hS (by omega) k0 k1 c0 c1)
  unfold putP putE
  cases hm : mayT k c
  · rw [hm] at HM
    clear hm
    go_enter Try.func8, Try.ntmps8
    go_wp2_with fail
    refine (HM.out _).mono ?_
    rintro e w1 ⟨rfl, hb1⟩
    go_wp2_with fail
    go_returns
    exact ⟨none, 0, rfl, OS.nil_, ((Below.refl _ _).alloc (Nat.le_refl _) _).trans (hb1.mono (by simp))⟩
  · rw [hm] at HM
    clear hm
    go_enter Try.func8, Try.ntmps8
    go_wp2_with fail
    refine (HM.out _).mono ?_
    rintro e w1 ⟨rfl, hb1⟩
    have B1 : Below w.heap.size w w1 := ((Below.refl _ _).alloc (Nat.le_refl _) _).trans (hb1.mono (by simp))
    have g0 : w1.cell? ⟨w.heap.size, 0, none⟩ = some (.int .u8 k) := (hb1.cell (p := ⟨w.heap.size, 0, none⟩) (by simp)).trans (by go_simp)
    have g1 : w1.cell? ⟨w.heap.size, 1, none⟩ = some (.int .u16 c) := (hb1.cell (p := ⟨w.heap.size, 1, none⟩) (by simp)).trans (by go_simp)
    go_wp2_with fail
    refine (HA.out (Lt w.heap.size) _ (fun k hk => Nat.lt_of_lt_of_le hk B1.size)).mono ?_
    rintro e w2 ⟨A2, d2, rfl, ho2, hb2⟩
    go_wp2_with fail
    go_returns
    simp only [List.nil_append, Nat.zero_add] at ho2 ⊢
    exact ⟨A2, d2, rfl, ho2, B1.trans (hb2.below (fun _ h => h))⟩
theorem reftput_any (k c : Int) (h : tyB k c) : TPutSaid 9 k c (putP k c) (putE k c) := by
  intro w
  obtain ⟨⟨k0, k1⟩, c0, c1⟩ := h
  have HM := Lib.hid (fun w => refmay_any k c w k0 c0)
  have HC := Lib.hid (fun w => refclsd_any k w k0)
  unfold putP putE
  cases hm : mayT k c
  · rw [hm] at HM
    clear hm
    go_enter Try.func9, Try.ntmps9
    go_wp2_with fail
    refine (HM.out _).mono ?_
    rintro e w1 ⟨rfl, hb1⟩
    go_wp2_with fail
    go_returns
    exact ⟨none, 0, rfl, OS.nil_, ((Below.refl _ _).alloc (Nat.le_refl _) _).trans (hb1.mono (by simp))⟩
  · rw [hm] at HM
    have e1 : dig k 1 = [k] := by rw [dig_1, Int.emod_eq_of_lt k0 k1]
    have e2 : dig c 2 = [c / 256, c % 256] := by rw [dig_2, Int.emod_eq_of_lt (a := c / 256) (by omega) (by omega)]
    unfold encT
    rw [e1, e2]
    clear hm e1 e2
    cases hk : clsd k
    · rw [hk] at HC
      clear hk
      go_enter Try.func9, Try.ntmps9
      go_wp2_with fail
      refine (HM.out _).mono ?_
      rintro e w1 ⟨rfl, hb1⟩
      have B1 : Below w.heap.size w w1 := ((Below.refl _ _).alloc (Nat.le_refl _) _).trans (hb1.mono (by simp))
      have z1 : w.heap.size < w1.heap.size := by have := hb1.size; simp at this; omega
      have g0 : w1.cell? ⟨w.heap.size, 0, none⟩ = some (.int .u8 k) := (hb1.cell (p := ⟨w.heap.size, 0, none⟩) (by simp)).trans (by go_simp)
      have g1 : w1.cell? ⟨w.heap.size, 1, none⟩ = some (.int .u16 c) := (hb1.cell (p := ⟨w.heap.size, 1, none⟩) (by simp)).trans (by go_simp)
      go_wp2_with ((refine (HC.out _).mono ?_); rintro e w' ⟨rfl, rfl⟩)
      go_returns
      exact ⟨_, _, rfl, OS.fresh w1 _ (by unfold Lt; omega) [k] 1 rfl (by simp [maxLen]) (by intro x hx; simp at hx; subst hx; exact ⟨k0, k1⟩), B1.alloc B1.size _⟩
    · rw [hk] at HC
      clear hk
      go_enter Try.func9, Try.ntmps9
      go_wp2_with fail
      refine (HM.out _).mono ?_
      rintro e w1 ⟨rfl, hb1⟩
      have B1 : Below w.heap.size w w1 := ((Below.refl _ _).alloc (Nat.le_refl _) _).trans (hb1.mono (by simp))
      have z1 : w.heap.size < w1.heap.size := by have := hb1.size; simp at this; omega
      have g0 : w1.cell? ⟨w.heap.size, 0, none⟩ = some (.int .u8 k) := (hb1.cell (p := ⟨w.heap.size, 0, none⟩) (by simp)).trans (by go_simp)
      have g1 : w1.cell? ⟨w.heap.size, 1, none⟩ = some (.int .u16 c) := (hb1.cell (p := ⟨w.heap.size, 1, none⟩) (by simp)).trans (by go_simp)
      have hr1 : rng [k] := by intro x hx; simp at hx; subst hx; exact ⟨k0, k1⟩
      have hr2 : rng [c / 256, c % 256] := by intro x hx; simp at hx; rcases hx with rfl | rfl <;> omega
      have HO := OS.fresh w1 (Lt w.heap.size) (by unfold Lt; omega) [k] 1 rfl (by simp [maxLen]) hr1
      have z2 : w1.heap.size < (w1.alloc (.cells (BL [k]) 5)).heap.size := by simp
      have B2 := B1.alloc B1.size (.cells (BL [k]) 5)
      have g2 : (w1.alloc (.cells (BL [k]) 5)).cell? ⟨w.heap.size, 1, none⟩ = some (.int .u16 c) := by go_simp
      have g3 : (w1.alloc (.cells (BL [k]) 5)).cell? ⟨w.heap.size, 0, none⟩ = some (.int .u8 k) := by go_simp
      rw [show BL [k] = #[.int .u8 k] from rfl] at HO z2 B2 g2 g3
      go_wp2_with fail
      generalize w1.alloc (.cells #[.int .u8 k] 5) = w2 at HO z2 B2 g2 g3 ⊢
      have HO := Lib.hid HO
      have q1 : IntKind.u16.wrap (c.tdiv 256) = c / 256 := by rw [Int.tdiv_eq_ediv_of_nonneg c0]; unfold IntKind.wrap; simp [IntKind.signed, IntKind.bits]; omega
      have q2 : c / 256 % 256 = c / 256 := by omega
      have HR := Lib.hid (rd_lit w2 [c / 256, c % 256] 2 rfl (by simp [maxLen]) hr2)
      clear hr1 hr2
      go_wp2_with (first
        | ((refine (HC.out _).mono ?_); rintro e w' ⟨rfl, rfl⟩)
        | (at_builtin; refine wpList_appS rfl _ _ rfl (Lt w.heap.size) _ 1 1 [k] rfl (HO.out.alloc _) _ _ 2 2 [c / 256, c % 256] rfl HR.out 3 rfl _ rfl (by omega) (fun j hj => by unfold Lt at hj; simp; omega) ?_; intro A2 c2 w2 ho2 hb2))
      go_returns
      exact ⟨A2, c2, rfl, ho2, (B2.alloc B2.size _).trans (hb2.below fun _ h => h)⟩
end Go.Proofs.Ytihdfogcnghfaaa
