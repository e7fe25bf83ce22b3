import Derived.Test.YtihdfogcnghfaaaFe
set_option linter.unusedVariables false
namespace Go.Proofs.Ytihdfogcnghfaaa
open Go.RowKit
/-! What stands in bytes: a type, or none; a type; types behind one another; a signature. -/
structure Got where
  k : Int
  c : Int
  x : Int
  e : Int
def gRet (l : List Int) (i : Int) : Got :=
  if i < 0 ∨ (l.length : Int) < i then ⟨0, 0, 0, 2⟩
  else if (l.length : Int) = i then ⟨0, 0, 0, 4⟩
  else if 8 < l.getD i.toNat 0 then ⟨0, 0, 0, 5⟩
  else if clsd (l.getD i.toNat 0) = false then ⟨l.getD i.toNat 0, 0, i + 1, 0⟩
  else if (l.length : Int) - (i + 1) < 2 then ⟨0, 0, 0, 4⟩
  else ⟨l.getD i.toNat 0, 256 * l.getD (i.toNat + 1) 0 + l.getD (i.toNat + 2) 0, i + 3, 0⟩
def gTy (l : List Int) (i : Int) : Got := if (gRet l i).e = 0 ∧ (gRet l i).k = 0 then ⟨0, 0, 0, 5⟩ else gRet l i
theorem numd_1 (l : List Int) (i : Nat) (h : i < l.length) : num ((l.drop i).take 1) = l.getD i 0 := by
  rw [List.drop_eq_getElem_cons h, List.getD_eq_getElem?_getD, List.getElem?_eq_getElem h, List.take_succ_cons, List.take_zero]
  simp [num]
theorem numd_2 (l : List Int) (i : Nat) (h : i + 1 < l.length) : num ((l.drop i).take 2) = 256 * l.getD i 0 + l.getD (i + 1) 0 := by
  rw [List.drop_eq_getElem_cons (by omega), List.drop_eq_getElem_cons (i := i + 1) h, List.getD_eq_getElem?_getD, List.getElem?_eq_getElem (by omega), List.getD_eq_getElem?_getD, List.getElem?_eq_getElem h, List.take_succ_cons, List.take_succ_cons, List.take_zero]
  simp [num]
/-- The six ways. -/
theorem gRet_ways (l : List Int) (i : Int) (hr : rng l) :
    ((i < 0 ∨ (l.length : Int) < i) ∧ gRet l i = ⟨0, 0, 0, 2⟩) ∨
    ∃ j : Nat, i = j ∧ j ≤ l.length ∧ ((l.length = j ∧ gRet l j = ⟨0, 0, 0, 4⟩) ∨ ∃ k : Int, j < l.length ∧ l.getD j 0 = k ∧ 0 ≤ k ∧ k < 256 ∧
      ((8 < k ∧ gRet l j = ⟨0, 0, 0, 5⟩) ∨ (k ≤ 8 ∧ clsd k = false ∧ gRet l j = ⟨k, 0, j + 1, 0⟩) ∨ (k ≤ 8 ∧ clsd k = true ∧ l.length < j + 3 ∧ gRet l j = ⟨0, 0, 0, 4⟩) ∨
        (k ≤ 8 ∧ clsd k = true ∧ j + 3 ≤ l.length ∧ (0 ≤ 256 * l.getD (j + 1) 0 + l.getD (j + 2) 0 ∧ 256 * l.getD (j + 1) 0 + l.getD (j + 2) 0 < 65536) ∧ gRet l j = ⟨k, 256 * l.getD (j + 1) 0 + l.getD (j + 2) 0, j + 3, 0⟩))) := by
  by_cases h : i < 0 ∨ (l.length : Int) < i
  · exact .inl ⟨h, by unfold gRet; rw [if_pos h]⟩
  · right
    obtain ⟨j, rfl⟩ : ∃ j : Nat, i = j := ⟨i.toNat, by omega⟩
    refine ⟨j, rfl, by omega, ?_⟩
    unfold gRet
    rw [if_neg h, Int.toNat_natCast]
    by_cases h1 : (l.length : Int) = j
    · exact .inl ⟨by omega, by rw [if_pos h1]⟩
    · right
      rw [if_neg h1]
      have hk := rng_getD hr j
      have h2 := rng_getD hr (j + 1)
      have h3 := rng_getD hr (j + 2)
      refine ⟨_, by omega, rfl, hk.1, hk.2, ?_⟩
      generalize l.getD j 0 = k at hk ⊢
      by_cases h8 : 8 < k
      · exact .inl ⟨h8, by rw [if_pos h8]⟩
      · rw [if_neg h8]
        cases hc : clsd k
        · exact .inr (.inl ⟨by omega, rfl, by rw [if_pos rfl]⟩)
        · rw [if_neg (by decide)]
          by_cases h4 : (l.length : Int) - (j + 1) < 2
          · exact .inr (.inr (.inl ⟨by omega, rfl, by omega, by rw [if_pos h4]⟩))
          · exact .inr (.inr (.inr ⟨by omega, rfl, by omega, by omega, by rw [if_neg h4]⟩))
def TGetSaid (f : Nat) (n : Nat) (l : List Int) (i : Int) (g : Got) : Prop := ∀ (w : World) (A : Option Addr) (c B : Nat), Rd w B A n l → n ≤ c → B ≤ w.heap.size →
  Calls Try.prog f #[.slice A n c, .int .i64 i] w fun e w' => e = .returned (.tuple #[.agg #[.int .u8 g.k, .int .u16 g.c], .int .i64 g.x, .int .i64 g.e]) ∧ Below w.heap.size w w'
theorem mayR_0 (k : Int) (h0 : 0 ≤ k) (h : k ≤ 8) : mayR k 0 = true := by
  rcases kinds k h0 with rfl | rfl | rfl | rfl | rfl | rfl | rfl | rfl | rfl | h8
  case inr.inr.inr.inr.inr.inr.inr.inr.inr => omega
  all_goals rfl
theorem mayR_big (k c : Int) (h : 8 < k) : mayR k c = false := by
  unfold mayR mayT
  rw [decide_eq_false (show ¬ k = 0 by omega), decide_eq_false (show ¬ (1 ≤ k ∧ k ≤ 8) by omega)]
  rfl
set_option maxHeartbeats 1000000 in
theorem getret_any (n : Nat) (l : List Int) (i : Int) (hn : n ≤ 281474976710656) (hl : l.length = n) (hr : rng l) : TGetSaid 38 n l i (gRet l i) := by
  intro w A c B hrd hc hB
  subst hl
  have HV := Lib.hid hrd
  clear hrd
  rcases gRet_ways l i hr with ⟨h, he⟩ | ⟨j, rfl, hj, ⟨h, he⟩ | ⟨k, h1, hk, k0, k1, ⟨h, he⟩ | ⟨h, h2, he⟩ | ⟨h, h2, h3, he⟩ | ⟨h, h2, h3, h4, he⟩⟩⟩
  · rw [he]
    have HG := Lib.hid (fun w => get_arg A l.length c i 1 w hc hn (.inr h))
    clear he h hr
    go_enter Try.func38, Try.ntmps38
    go_wp2_with fail
    refine (HG.out _).mono ?_
    rintro e w1 ⟨rfl, rfl⟩
    go_wp2_with fail
    exact bodyPost_ret (v := .tuple #[.agg #[.int .u8 0, .int .u16 0], .int .i64 0, .int .i64 2]) (by simp [results, Try.results38, go_sem]) rfl ⟨rfl, (Below.refl _ _).alloc (Nat.le_refl _) _⟩
  · rw [he]
    have HG := Lib.hid (fun w => get_short A l.length c j 1 w hc hn (.inl rfl) (by omega) (by omega) (by omega))
    clear he h hr
    go_enter Try.func38, Try.ntmps38
    go_wp2_with fail
    refine (HG.out _).mono ?_
    rintro e w1 ⟨rfl, rfl⟩
    go_wp2_with fail
    exact bodyPost_ret (v := .tuple #[.agg #[.int .u8 0, .int .u16 0], .int .i64 0, .int .i64 4]) (by simp [results, Try.results38, go_sem]) rfl ⟨rfl, (Below.refl _ _).alloc (Nat.le_refl _) _⟩
  · rw [he]
    have HG := Lib.hid (fun w (hr : Rd w B A l.length l) => get_ok A l.length c B j 1 l w hc hn hr (.inl rfl) (by omega))
    rw [numd_1 l j h1, hk] at HG
    have HM := Lib.hid (fun w => mayret_any k 0 w k0 (by omega))
    rw [mayR_big k 0 h] at HM
    have k8 : k % 256 = k := Int.emod_eq_of_lt k0 k1
    clear he hr hk
    go_enter Try.func38, Try.ntmps38
    go_wp2_with fail
    refine (HG.out _ (HV.out.alloc hB _)).mono ?_
    rintro e w1 ⟨rfl, rfl⟩
    go_wp2_with fail
    refine (HM.out _).mono ?_
    rintro e w2 ⟨rfl, hb2⟩
    have z2 : w.heap.size < w2.heap.size := by have := hb2.size; simp at this; omega
    have B2 : Below w.heap.size w w2 := (((Below.refl _ _).alloc (Nat.le_refl _) _).trans (hb2.mono (by simp)))
    have g0 : w2.cell? ⟨w.heap.size, 0, none⟩ = some (.int .u8 k) := (hb2.cell (p := ⟨w.heap.size, 0, none⟩) (by simp)).trans (by go_simp)
    have g1 : w2.cell? ⟨w.heap.size, 1, none⟩ = some (.int .u16 0) := (hb2.cell (p := ⟨w.heap.size, 1, none⟩) (by simp)).trans (by go_simp)
    have f0 : w2.frozen? ⟨w.heap.size, 0, none⟩ = false := (hb2.frozen (p := ⟨w.heap.size, 0, none⟩) (by simp)).trans (by go_simp)
    have f1 : w2.frozen? ⟨w.heap.size, 1, none⟩ = false := (hb2.frozen (p := ⟨w.heap.size, 1, none⟩) (by simp)).trans (by go_simp)
    go_wp2_with fail
    exact bodyPost_ret (v := .tuple #[.agg #[.int .u8 0, .int .u16 0], .int .i64 0, .int .i64 5]) (by simp [results, Try.results38, go_sem, g0, g1]) rfl ⟨rfl, (B2.setCell (Nat.le_refl _) _).setCell (Nat.le_refl _) _⟩
  · rw [he]
    have HG := Lib.hid (fun w (hr : Rd w B A l.length l) => get_ok A l.length c B j 1 l w hc hn hr (.inl rfl) (by omega))
    rw [numd_1 l j h1, hk] at HG
    have HM := Lib.hid (fun w => mayret_any k 0 w k0 (by omega))
    rw [mayR_0 k k0 h] at HM
    have k8 : k % 256 = k := Int.emod_eq_of_lt k0 k1
    have HC := Lib.hid (fun w => hasc_any k w k0)
    rw [h2] at HC
    clear he hr hk h2
    go_enter Try.func38, Try.ntmps38
    go_wp2_with fail
    refine (HG.out _ (HV.out.alloc hB _)).mono ?_
    rintro e w1 ⟨rfl, rfl⟩
    go_wp2_with fail
    refine (HM.out _).mono ?_
    rintro e w2 ⟨rfl, hb2⟩
    have z2 : w.heap.size < w2.heap.size := by have := hb2.size; simp at this; omega
    have B2 : Below w.heap.size w w2 := (((Below.refl _ _).alloc (Nat.le_refl _) _).trans (hb2.mono (by simp)))
    have g0 : w2.cell? ⟨w.heap.size, 0, none⟩ = some (.int .u8 k) := (hb2.cell (p := ⟨w.heap.size, 0, none⟩) (by simp)).trans (by go_simp)
    have g1 : w2.cell? ⟨w.heap.size, 1, none⟩ = some (.int .u16 0) := (hb2.cell (p := ⟨w.heap.size, 1, none⟩) (by simp)).trans (by go_simp)
    have f0 : w2.frozen? ⟨w.heap.size, 0, none⟩ = false := (hb2.frozen (p := ⟨w.heap.size, 0, none⟩) (by simp)).trans (by go_simp)
    have f1 : w2.frozen? ⟨w.heap.size, 1, none⟩ = false := (hb2.frozen (p := ⟨w.heap.size, 1, none⟩) (by simp)).trans (by go_simp)
    go_wp2_with fail
    refine (HC.out _).mono ?_
    rintro e w3 ⟨rfl, rfl⟩
    go_wp2_with fail
    exact bodyPost_ret (v := .tuple #[.agg #[.int .u8 k, .int .u16 0], .int .i64 ((j : Int) + 1), .int .i64 0]) (by simp [results, Try.results38, go_sem, g0, g1]) rfl ⟨rfl, (B2.setCell (Nat.le_refl _) _).setCell (Nat.le_refl _) _⟩
  · rw [he]
    have HG := Lib.hid (fun w (hr : Rd w B A l.length l) => get_ok A l.length c B j 1 l w hc hn hr (.inl rfl) (by omega))
    rw [numd_1 l j h1, hk] at HG
    have HM := Lib.hid (fun w => mayret_any k 0 w k0 (by omega))
    rw [mayR_0 k k0 h] at HM
    have k8 : k % 256 = k := Int.emod_eq_of_lt k0 k1
    have HC := Lib.hid (fun w => hasc_any k w k0)
    rw [h2] at HC
    have HG2 := Lib.hid (fun w => get_short A l.length c (j + 1) 2 w hc hn (.inr (.inl rfl)) (by omega) (by omega) (by omega))
    clear he hr hk h2
    go_enter Try.func38, Try.ntmps38
    go_wp2_with fail
    refine (HG.out _ (HV.out.alloc hB _)).mono ?_
    rintro e w1 ⟨rfl, rfl⟩
    go_wp2_with fail
    refine (HM.out _).mono ?_
    rintro e w2 ⟨rfl, hb2⟩
    have z2 : w.heap.size < w2.heap.size := by have := hb2.size; simp at this; omega
    have B2 : Below w.heap.size w w2 := (((Below.refl _ _).alloc (Nat.le_refl _) _).trans (hb2.mono (by simp)))
    have g0 : w2.cell? ⟨w.heap.size, 0, none⟩ = some (.int .u8 k) := (hb2.cell (p := ⟨w.heap.size, 0, none⟩) (by simp)).trans (by go_simp)
    have g1 : w2.cell? ⟨w.heap.size, 1, none⟩ = some (.int .u16 0) := (hb2.cell (p := ⟨w.heap.size, 1, none⟩) (by simp)).trans (by go_simp)
    have f0 : w2.frozen? ⟨w.heap.size, 0, none⟩ = false := (hb2.frozen (p := ⟨w.heap.size, 0, none⟩) (by simp)).trans (by go_simp)
    have f1 : w2.frozen? ⟨w.heap.size, 1, none⟩ = false := (hb2.frozen (p := ⟨w.heap.size, 1, none⟩) (by simp)).trans (by go_simp)
    go_wp2_with fail
    refine (HC.out _).mono ?_
    rintro e w3 ⟨rfl, rfl⟩
    go_wp2_with fail
    refine (HG2.out _).mono ?_
    rintro e w3 ⟨rfl, rfl⟩
    go_wp2_with fail
    exact bodyPost_ret (v := .tuple #[.agg #[.int .u8 0, .int .u16 0], .int .i64 0, .int .i64 4]) (by simp [results, Try.results38, go_sem, g0, g1]) rfl ⟨rfl, (B2.setCell (Nat.le_refl _) _).setCell (Nat.le_refl _) _⟩
  · rw [he]
    have HG := Lib.hid (fun w (hr : Rd w B A l.length l) => get_ok A l.length c B j 1 l w hc hn hr (.inl rfl) (by omega))
    rw [numd_1 l j h1, hk] at HG
    have HM := Lib.hid (fun w => mayret_any k 0 w k0 (by omega))
    rw [mayR_0 k k0 h] at HM
    have k8 : k % 256 = k := Int.emod_eq_of_lt k0 k1
    have HC := Lib.hid (fun w => hasc_any k w k0)
    rw [h2] at HC
    have HG2 := Lib.hid (fun w (hr : Rd w B A l.length l) => get_ok A l.length c B (j + 1) 2 l w hc hn hr (.inr (.inl rfl)) (by omega))
    rw [numd_2 l (j + 1) (by omega)] at HG2
    generalize 256 * l.getD (j + 1) 0 + l.getD (j + 1 + 1) 0 = cc at h4 HG2 ⊢
    obtain ⟨h5, h6⟩ := h4
    have c8 : cc % 65536 = cc := Int.emod_eq_of_lt h5 h6
    clear he hr hk h2
    go_enter Try.func38, Try.ntmps38
    go_wp2_with fail
    refine (HG.out _ (HV.out.alloc hB _)).mono ?_
    rintro e w1 ⟨rfl, rfl⟩
    go_wp2_with fail
    refine (HM.out _).mono ?_
    rintro e w2 ⟨rfl, hb2⟩
    have z2 : w.heap.size < w2.heap.size := by have := hb2.size; simp at this; omega
    have B2 : Below w.heap.size w w2 := (((Below.refl _ _).alloc (Nat.le_refl _) _).trans (hb2.mono (by simp)))
    have g0 : w2.cell? ⟨w.heap.size, 0, none⟩ = some (.int .u8 k) := (hb2.cell (p := ⟨w.heap.size, 0, none⟩) (by simp)).trans (by go_simp)
    have g1 : w2.cell? ⟨w.heap.size, 1, none⟩ = some (.int .u16 0) := (hb2.cell (p := ⟨w.heap.size, 1, none⟩) (by simp)).trans (by go_simp)
    have f0 : w2.frozen? ⟨w.heap.size, 0, none⟩ = false := (hb2.frozen (p := ⟨w.heap.size, 0, none⟩) (by simp)).trans (by go_simp)
    have f1 : w2.frozen? ⟨w.heap.size, 1, none⟩ = false := (hb2.frozen (p := ⟨w.heap.size, 1, none⟩) (by simp)).trans (by go_simp)
    go_wp2_with fail
    refine (HC.out _).mono ?_
    rintro e w3 ⟨rfl, rfl⟩
    go_wp2_with fail
    refine (HG2.out _ (HV.out.below B2 hB)).mono ?_
    rintro e w3 ⟨rfl, rfl⟩
    go_wp2_with fail
    have hj3 : (j : Int) + 1 + 2 = j + 3 := by omega
    rw [← hj3]
    exact bodyPost_ret (v := .tuple #[.agg #[.int .u8 k, .int .u16 cc], .int .i64 ((j : Int) + 1 + 2), .int .i64 0]) (by simp [results, Try.results38, go_sem, g0, g1]) rfl ⟨rfl, ((B2.setCell (Nat.le_refl _) _).setCell (Nat.le_refl _) _).setCell (Nat.le_refl _) _⟩
end Go.Proofs.Ytihdfogcnghfaaa
