import Derived.Test.YtihdfogcnghfaaaFo
set_option linter.unusedVariables false
namespace Go.Proofs.Ytihdfogcnghfaaa
open Go.RowKit
theorem sigP_yes {k cl : Int} {l : List Ty} (h : maySB k cl l = true) : sigP k cl l = sigB k cl l ∧ sigE k cl l = 0 := by
  unfold sigP sigE
  rw [h]
  exact ⟨rfl, rfl⟩
theorem sigP_no {k cl : Int} {l : List Ty} (h : maySB k cl l = false) : sigP k cl l = [] ∧ sigE k cl l = 2 := by
  unfold sigP sigE
  rw [h]
  exact ⟨rfl, rfl⟩
theorem sameSB_self (k c : Int) (l : List Ty) : sameSB k c k c l l = true := by unfold sameSB; simp
theorem gSig_err (l : List Int) (i : Int) (hr : rng l) (h : ¬ (gSig l i).e = 0) : gSig l i = ⟨0, 0, [], 0, (gSig l i).e⟩ := by
  rcases gSig_ways l i hr with ⟨E, hE, _, hs⟩ | ⟨k', c', x, hg, hty, _, hx, _, _, ⟨_, hs⟩ | ⟨m, h1, hm, h256, ⟨_, hs⟩ | ⟨_, E, hE, _, hs⟩ | ⟨h2, ts', y', ht, hs⟩⟩⟩
  · rw [hs]
  · rw [hs]
  · rw [hs]
  · rw [hs]
  · rw [hs] at h; exact absurd rfl h
theorem sigB_rng (k c : Int) (l : List Ty) : rng (sigB k c l) := by
  unfold sigB
  refine rng_app (encT_rng _ _) (rng_app (dig_rng _ _) ?_)
  intro x hx
  obtain ⟨p, _, hp⟩ := List.mem_flatMap.1 hx
  exact encT_rng _ _ x hp
set_option maxHeartbeats 2000000 in
set_option maxRecDepth 100000 in
theorem twalk_back (A A1 A2 : Option Addr) (n d n1 d1 n2 d2 : Nat) (l : List Ty) (a b : List Int) (k cl : Int) (w : World) (hn : n * 4 ≤ 140737488351232) (hn1 : n1 ≤ 140737488351232) (hn2 : n2 ≤ 140737488351232) (hd : n ≤ d) (hd1 : n1 ≤ d1) (hd2 : n2 ≤ d2)
    (hr : RV tyR w w.heap.size A n l) (hb : tyB k cl) (hr1 : Rd w w.heap.size A1 n1 a) (hr2 : Rd w w.heap.size A2 n2 b) :
    Calls Try.prog 5 #[.agg #[.slice A n d, .int .u8 k, .int .u16 cl], .slice A1 n1 d1, .slice A2 n2 d2] w fun e w' => e = .returned (.bool true) ∧ Below w.heap.size w w' := by
  have P1 := Lib.hid (putsig_any n k cl l (by omega) hb)
  have HR := Lib.hid hr
  have HR1 := Lib.hid hr1
  have HR2 := Lib.hid hr2
  have hBox := Blk.new w #[.slice A n d, .int .u8 k, .int .u16 cl] 28
  have hb0 := (Below.refl w.heap.size w).alloc (Nat.le_refl _) (.cells #[.slice A n d, .int .u8 k, .int .u16 cl] 28)
  have HX := Lib.hid hBox
  have HB := Lib.hid hb0
  have HGB := Lib.hid (gSig_err b (0 : Nat) hr2.rg)
  have HGD := Lib.hid (fun k cl ts y => gSig_dec b hr2.rg k cl ts y)
  have P2 := Lib.hid (getsig_any n2 b (0 : Nat) (by omega) hr2.len hr2.rg)
  have HOK := Lib.hid (show tyB k cl ∧ allok tyR l ∧ l.length = n from ⟨hb, hr.rg, hr.len⟩)
  have HA := Lib.hid (show a.length = n1 ∧ rng a from ⟨hr1.len, hr1.rg⟩)
  clear hBox hb0 hr hr1 hr2 hb
  have HCASE := Lib.hid (show maySB k cl l = true ∨ maySB k cl l = false by cases maySB k cl l; exact .inr rfl; exact .inl rfl)
  have HLP := Lib.hid (sigP_len k cl l)
  go_enter Try.func5, Try.ntmps5
  go_wp2_with fail
  refine (P1.out _ _ _ _ (HR.out.alloc (Nat.le_refl _) _) (by simp)).mono ?_
  rintro e w1 ⟨A5, d5, rfl, ho5, hb5⟩
  have HX1 := Lib.hid (HX.out.below hb5)
  have HB1 := Lib.hid (HB.out.trans (hb5.mono HB.out.size))
  have HO5 := Lib.hid ho5
  clear HX HB ho5 hb5 P1
  go_upto_if 24 with (fail)
  go_cut [] from 7 to 66 (fun wx => Below w.heap.size w wx)
  case first =>
    rcases HCASE.out with hm | hm
    · obtain ⟨hp, he⟩ := sigP_yes hm
      have heb : (sigE k cl l == 0) = true := by rw [he]; rfl
      have hl100 := HLP.out
      rw [hp] at hl100
      have hg := gSig_enc a k cl l HOK.out.1 HOK.out.2.1 hm
      have hlen : (a ++ sigB k cl l).length = n1 + (sigB k cl l).length := by rw [List.length_append, HA.out.1]
      have hrg : rng (a ++ sigB k cl l) := rng_app HA.out.2 (sigB_rng k cl l)
      obtain ⟨N, hN⟩ : ∃ N, N = (a ++ sigB k cl l).length := ⟨_, rfl⟩
      have hN2 : N ≤ 140737488355328 := by omega
      have P3 := getsig_any N (a ++ sigB k cl l) (a.length : Nat) (by omega) hN.symm hrg
      rw [hg, ← hN, HA.out.1] at P3
      have HN := Lib.hid (hN.trans hlen)
      have HP3 := Lib.hid P3
      have H15 := Lib.hid (may15 hm)
      have HP := Lib.hid hp
      have HE := Lib.hid he
      have HLEN := Lib.hid hlen
      have HO := Lib.hid HO5.out
      rw [hp] at HO
      clear hm hp he hg hlen hrg P3 HCASE hN
      generalize sigE k cl l = E at heb HE ⊢
      generalize sigB k cl l = sb at HP HLEN HP3 HO hl100 HN
      go_wp2_with fail
      refine (copy_any A1 n1 d1 _ a _ (by omega) (HR1.out.below HB1.out (Nat.le_refl _)) HB1.out.size).mono ?_
      rintro e w2 ⟨A6, d6, rfl, ho6, hb6⟩
      have HO6 := Lib.hid (ho6.os (S := Lt w1.heap.size) (fun _ h => h))
      have HO52 := Lib.hid (HO.out.below hb6)
      have HX2 := Lib.hid (HX1.out.below hb6)
      have HB2 := Lib.hid (HB1.out.trans (hb6.mono HB1.out.size))
      have z2 := hb6.size
      clear ho6 hb6
      rw [HP.out]
      go_wp2_with (at_builtin; refine wpList_appS rfl _ _ rfl (Lt w1.heap.size) A6 n1 d6 a rfl HO6.out _ A5 sb.length d5 sb rfl HO52.out.rd N HN.out (a ++ sb) rfl (by omega) (fun j hj => by unfold Lt at hj; omega) ?_; intro A7 d7 w3 ho7 hb7)
      have HX3 := Lib.hid ((HX2.out.kp hb7 (by have := HX1.out.lt; unfold Lt; omega)))
      have HB3 := Lib.hid (HB2.out.trans (hb7.below (B := w.heap.size) (fun j hj => by have := HB1.out.size; unfold Lt; omega)))
      have z3 := hb7.size
      have hRd := ho7.rd
      have hNd := ho7.le
      clear ho7 hb7
      refine (HP3.out _ _ _ _ hRd hNd (Nat.le_refl _)).mono ?_
      rintro e w4 ⟨A8, d8, rfl, ho8, hb8⟩
      have HX4 := (HX3.out.below hb8).alloc (.cells #[.slice A8 l.length d8, .int .u8 k, .int .u16 cl] 28)
      have HB4 := Lib.hid ((HB3.out.trans (hb8.mono HB3.out.size)).alloc (Nat.le_trans HB3.out.size hb8.size) (.cells #[.slice A8 l.length d8, .int .u8 k, .int .u16 cl] 28))
      have HR8 := Lib.hid (ho8.alloc (.cells #[.slice A8 l.length d8, .int .u8 k, .int .u16 cl] 28)).rv
      have HRl := Lib.hid (HR.out.below HB4.out (Nat.le_refl _))
      have z4 : w.heap.size < w4.heap.size := (HX3.out.below hb8).lt
      have g0 : w4.cell? ⟨w.heap.size, 0, none⟩ = some (.slice A n d) := (HX3.out.below hb8).cell 0
      have g1 : w4.cell? ⟨w.heap.size, 1, none⟩ = some (.int .u8 k) := (HX3.out.below hb8).cell 1
      have g2 : w4.cell? ⟨w.heap.size, 2, none⟩ = some (.int .u16 cl) := (HX3.out.below hb8).cell 2
      clear HX4 ho8 hb8 hRd
      go_wp2_with fail
      have hl15 : l.length ≤ 15 := H15.out
      refine (types_any A8 A l.length n d8 d _ _ l l _ (by omega) (by omega) HR8.out HRl.out).mono ?_
      rw [decide_eq_true rfl]
      rintro e w5 ⟨rfl, q5, rfl⟩
      go_wp2_with fail
      refine (tysame_any l.length n k cl k cl l l (by omega) (by omega) _ A8 A d8 d _ _ (HR8.out.drewN q5) (HRl.out.drewN q5) (by simp) (by simp; omega)).mono ?_
      rw [sameSB_self]
      rintro e w6 ⟨rfl, hb6⟩
      go_wp2_with fail
      go_meet
      exact (below_drewN HB4.out q5).trans (hb6.mono HB4.out.size)
    · obtain ⟨hp, he⟩ := sigP_no hm
      have heb : (sigE k cl l == 0) = false := by rw [he]; rfl
      clear hm hp he HCASE
      generalize sigE k cl l = E at heb ⊢
      go_wp2_with fail
      go_meet
      exact HB1.out
  case rest =>
    have HB9 := Lib.hid hcut
    clear hcut HX1 HB1 HO5
    go_wp2_with fail
    refine (P2.out _ _ _ _ (HR2.out.below HB9.out (Nat.le_refl _)) hd2 HB9.out.size).mono ?_
    rintro e w2 ⟨A8, d8, rfl, ho8, hb8⟩
    have HO8 := Lib.hid ho8
    have HB8 := Lib.hid (HB9.out.trans (hb8.mono HB9.out.size))
    clear ho8 hb8
    have hgb := HGB.out
    have hgd := HGD.out
    clear HGB HGD P2 HCASE HLP
    generalize gSig b (0 : Nat) = s at hgb hgd HO8 ⊢
    obtain ⟨k3, c3, ts, x, ee⟩ := s
    simp only at hgb hgd HO8 ⊢
    by_cases he : ee = 0
    · subst he
      clear hgb
      obtain ⟨Y, rfl, hY, hmay, hb3, hok, henc⟩ := hgd k3 c3 ts x rfl
      obtain ⟨hp, hE⟩ := sigP_yes hmay
      have h15 := may15 hmay
      have P5 := putsig_any ts.length k3 c3 ts (by omega) hb3
      rw [hp, hE, henc] at P5
      have HP5 := Lib.hid P5
      have HLY := Lib.hid (show (b.take Y).length = Y by rw [List.length_take]; omega)
      have hY2 : Y ≤ n2 := by rw [← HR2.out.len]; exact hY
      clear hmay hp hE henc hY P5 hgd
      have z8 := HB8.out.size
      go_wp2_with fail
      refine (HP5.out _ _ _ _ ((HO8.out.alloc _).rv) (by simp)).mono ?_
      rintro e w3 ⟨A9, d9, rfl, ho9, hb9⟩
      rw [HLY.out] at ho9
      have HB10 := Lib.hid ((HB8.out.alloc HB8.out.size _).trans (hb9.mono (by simp; omega)))
      have HO9 := Lib.hid ho9
      have hrY := (HR2.out.below HB10.out (Nat.le_refl _)).cut (i := 0) (m := Y) (A' := A2) (by omega) (fun hm => by cases A2 <;> simp [Addr.add_zero'])
      rw [List.drop_zero] at hrY
      have HRY := Lib.hid hrY
      clear ho9 hb9 hrY
      rw [HLY.out]
      go_wp2_with fail
      refine (same_yes A9 A2 Y d9 Y _ _ (b.take Y) w3 (by omega) HO9.out.rd HRY.out).mono ?_
      rintro e w5 ⟨rfl, q5, rfl⟩
      go_wp2_with fail
      refine (tworks_any _).mono ?_
      rintro e w6 ⟨rfl, hb6⟩
      go_wp2_with fail
      go_returns
      exact ⟨rfl, (below_drewN HB10.out _).trans (hb6.mono HB10.out.size)⟩
    · have hne : (ee != 0) = true := by simpa using he
      have h1 := hgb he
      simp only [GotS.mk.injEq] at h1
      obtain ⟨rfl, rfl, rfl, rfl, -⟩ := h1
      clear hgb hgd he
      go_wp2_with fail
      refine (tworks_any _).mono ?_
      rintro e w6 ⟨rfl, hb6⟩
      go_wp2_with fail
      go_returns
      exact ⟨rfl, (HB8.out.alloc HB8.out.size _).trans (hb6.mono (by have := HB8.out.size; simp; omega))⟩
end Go.Proofs.Ytihdfogcnghfaaa
