import Derived.Test.YtihdfogcnghfaaaFd
import Derived.Deep.DeepCutAuto
import Derived.Deep.CutRange
set_option linter.unusedVariables false
namespace Go.Proofs.Ytihdfogcnghfaaa
open Go.RowKit
/-! PutSig of both. -/
def encS (l : List Ty) : List Int := l.flatMap fun p => encT p.1 p.2
theorem encS_snoc (l : List Ty) (j : Nat) (h : j < l.length) : encS (l.take (j + 1)) = encS (l.take j) ++ encT (l.getD j (0, 0)).1 (l.getD j (0, 0)).2 := by
  rw [List.take_succ_eq_append_getElem h, List.getD_eq_getElem?_getD, List.getElem?_eq_getElem h]
  simp only [encS, List.flatMap_append, List.flatMap_cons, List.flatMap_nil, List.append_nil, Option.getD_some]
theorem encS_len : ∀ (l : List Ty), (encS l).length ≤ 3 * l.length
  | [] => by simp [encS]
  | p :: l => by
    have h1 := encS_len l
    have h2 := (encT_len p.1 p.2).1
    have h3 : (encS (p :: l)).length = (encT p.1 p.2).length + (encS l).length := by simp [encS]
    rw [List.length_cons]
    omega
def sigB (k cl : Int) (l : List Ty) : List Int := encT k cl ++ (dig l.length 1 ++ encS l)
def sigP (k cl : Int) (l : List Ty) : List Int := if maySB k cl l then sigB k cl l else []
def sigE (k cl : Int) (l : List Ty) : Int := if maySB k cl l then 0 else 2
theorem sigP_len (k cl : Int) (l : List Ty) : (sigP k cl l).length ≤ 100 := by
  unfold sigP
  cases h : maySB k cl l
  · simp
  · have h15 : l.length ≤ 15 := by
      unfold maySB at h
      simp only [Bool.and_eq_true, decide_eq_true_eq] at h
      exact h.2.1
    have h1 := (encT_len k cl).1
    have h2 := encS_len l
    simp only [if_true, sigB, List.length_append, dig_len]
    omega
def SPutSaid (f : Nat) (n : Nat) (k cl : Int) (l : List Ty) (p : List Int) (E : Int) : Prop := ∀ (w : World) (A : Option Addr) (c B : Nat), RV tyR w B A n l → B ≤ w.heap.size →
  Calls Try.prog f #[.agg #[.slice A n c, .int .u8 k, .int .u16 cl]] w fun e w' => ∃ A' c', e = .returned (.tuple #[.slice A' p.length c', .int .i64 E]) ∧ OS w' (Lt w.heap.size) A' p.length c' p ∧ Below w.heap.size w w'
def sigL (k cl : Int) (n : Nat) (l : List Ty) (j : Nat) : List Int := encT k cl ++ (dig n 1 ++ encS (l.take j))
theorem sigL_snoc (k cl : Int) (n : Nat) (l : List Ty) (j : Nat) (h : j < l.length) : sigL k cl n l (j + 1) = sigL k cl n l j ++ encT (l.getD j (0, 0)).1 (l.getD j (0, 0)).2 := by
  unfold sigL
  rw [encS_snoc l j h]
  simp only [List.append_assoc]
theorem sigL_len (k cl : Int) (n : Nat) (l : List Ty) (j : Nat) (h : j ≤ 15) : (sigL k cl n l j).length ≤ 60 := by
  have h1 := (encT_len k cl).1
  have h2 := encS_len (l.take j)
  rw [List.length_take] at h2
  simp only [sigL, List.length_append, dig_len]
  omega
theorem sigL_all (k cl : Int) (l : List Ty) : sigL k cl l.length l l.length = sigB k cl l := by
  unfold sigL sigB
  rw [List.take_length]
theorem sigL_0 (k cl : Int) (n : Nat) (l : List Ty) : sigL k cl n l 0 = encT k cl ++ dig n 1 := by simp [sigL, encS]
theorem may15 {k cl : Int} {l : List Ty} (h : maySB k cl l = true) : l.length ≤ 15 := by
  unfold maySB at h
  simp only [Bool.and_eq_true, decide_eq_true_eq] at h
  exact h.2.1
set_option maxHeartbeats 1000000 in
theorem putsig_any (n : Nat) (k cl : Int) (l : List Ty) (hn : n ≤ 281474976710656) (hb : tyB k cl) : SPutSaid 10 n k cl l (sigP k cl l) (sigE k cl l) := by
  intro w A c B hr hB
  have HM := Lib.hid (fun w (hr : RV tyR w B A n l) (hB : B ≤ w.heap.size) => maysig_any A n c B k cl l w hr hB hn hb)
  have HV := Lib.hid hr
  have HL := Lib.hid hr.len
  unfold sigP sigE
  cases hm : maySB k cl l
  · rw [hm] at HM
    clear hm hr
    go_enter Try.func10, Try.ntmps10
    go_wp2_with fail
    refine (HM.out _ (HV.out.alloc hB _) (by simp; omega)).mono ?_
    rintro e w1 ⟨rfl, hb1⟩
    go_wp2_with fail
    go_returns
    exact ⟨none, 0, rfl, OS.nil_, ((Below.refl _ _).alloc (Nat.le_refl _) _).trans (hb1.mono (by simp))⟩
  · have h15 := may15 hm
    rw [hr.len] at h15
    rw [hm] at HM
    clear hm hr
    obtain ⟨⟨k0, k1⟩, c0, c1⟩ := hb
    simp only [↓reduceIte]
    have HT := Lib.hid (fun S A n c l w hob hS hn => apptype_any S A n c l k cl w hob hS hn k0 k1 c0 c1)
    have HN := Lib.hid (fun S A m c l w hob hS hm => tappnum_any S A m c l (n : Int) 1 w hob hS (.inl ⟨rfl, by omega⟩) hm (by omega))
    have e1 := (encT_len k cl).1
    go_enter Try.func10, Try.ntmps10
    go_wp2_with fail
    refine (HM.out _ (HV.out.alloc hB _) (by simp; omega)).mono ?_
    rintro e w1 ⟨rfl, hb1⟩
    have z1 : w.heap.size < w1.heap.size := by have := hb1.size; simp at this; omega
    have B1 : Below w.heap.size w w1 := ((Below.refl _ _).alloc (Nat.le_refl _) _).trans (hb1.mono (by simp))
    have g0 : w1.cell? ⟨w.heap.size, 0, none⟩ = some (.slice A n c) := (hb1.cell (p := ⟨w.heap.size, 0, none⟩) (by simp)).trans (by go_simp)
    have g1 : w1.cell? ⟨w.heap.size, 1, none⟩ = some (.int .u8 k) := (hb1.cell (p := ⟨w.heap.size, 1, none⟩) (by simp)).trans (by go_simp)
    have g2 : w1.cell? ⟨w.heap.size, 2, none⟩ = some (.int .u16 cl) := (hb1.cell (p := ⟨w.heap.size, 2, none⟩) (by simp)).trans (by go_simp)
    clear hb1
    have hS1 : ∀ w' : World, w1.heap.size ≤ w'.heap.size → ∀ j, Lt (w.heap.size + 1) j → j < w'.heap.size := fun w' h j hj => by unfold Lt at hj; omega
    have HS1 := Lib.hid hS1
    clear hS1
    go_wp2_with fail
    refine (HT.out (Lt (w.heap.size + 1)) none 0 0 [] _ OS.nil_ (HS1.out _ (Nat.le_refl _)) (by omega)).mono ?_
    rintro e w2 ⟨A2, d2, rfl, ho2, hb2⟩
    simp only [List.nil_append, Nat.zero_add] at ho2
    have g20 := (hb2.cell (p := ⟨w.heap.size, 0, none⟩) (by unfold Lt; simp)).trans g0
    clear g0 g1 g2
    go_wp2_with fail
    refine (HN.out (Lt (w.heap.size + 1)) A2 _ d2 _ _ ho2 (HS1.out _ hb2.size) (by omega)).mono ?_
    rintro e w3 ⟨A3, d3, rfl, ho3, hb3⟩
    have g30 := (hb3.cell (p := ⟨w.heap.size, 0, none⟩) (by unfold Lt; simp)).trans g20
    clear g20
    have e2 := sigL_0 k cl n l
    have e3 : (sigL k cl n l 0).length = (encT k cl).length + 1 := by rw [e2, List.length_append, dig_len]
    rw [← e2, ← e3] at ho3
    have HO3 := Lib.hid ho3
    have HE3 := Lib.hid e3
    have B3 := Lib.hid (B1.trans ((hb2.trans hb3).below (B := w.heap.size) (fun j hj => by unfold Lt; omega)))
    have HZ := Lib.hid (Nat.le_trans hb2.size hb3.size)
    clear e2 e3 ho3 ho2 hb2 hb3 B1
    go_wp2_with fail
    go_loopw [4, 22] (fun v i wr => ∃ (j d : Nat) (A' : Option Addr), j ≤ n ∧ i = .int .i64 j ∧ v = .slice A' (sigL k cl n l j).length d ∧ OS wr (Lt w.heap.size) A' (sigL k cl n l j).length d (sigL k cl n l j) ∧ Below w.heap.size w wr) (fun _ i _ => n - (intOf i).toNat)
    case atStart => exact ⟨0, d3, A3, Nat.zero_le _, rfl, by rw [HE3.out], HO3.out.less (fun j hj => by unfold Lt at *; omega), B3.out⟩
    case round =>
      clear g30
      obtain ⟨j, d, A', hj, rfl, rfl, hor, hbr⟩ := hrel
      have HO := Lib.hid hor
      have HB := Lib.hid hbr
      clear hor hbr
      have hz := HB.out.size
      have hl60 := sigL_len k cl n l j (by omega)
      by_cases hlt : j < n
      · obtain ⟨b, off, rfl, hbb, q0, q1, qb⟩ := (HV.out.below HB.out hB).ty j hlt
        have HE := Lib.hid (sigL_snoc k cl n l j (by rw [HL.out]; exact hlt))
        generalize l.getD j (0, 0) = p at q0 q1 qb HE
        obtain ⟨p1, p2⟩ := p
        simp only at q0 q1 qb HE
        have HP := Lib.hid (fun S A n c l w hob hS hn => apptype_any S A n c l p1 p2 w hob hS hn qb.1.1 qb.1.2 qb.2.1 qb.2.2)
        have HE2 := Lib.hid (congrArg List.length HE.out)
        go_wp2_with fail
        refine (HP.out (Lt w.heap.size) A' _ d _ _ (HO.out.alloc _) (fun j hj => by unfold Lt at hj; simp; omega) (by omega)).mono ?_
        rintro e w4 ⟨A4, d4, rfl, ho4, hb4⟩
        rw [← HE.out, ← List.length_append, ← HE.out] at ho4
        go_wp2_with fail
        go_roundw
        case rel => exact ⟨j + 1, d4, A4, by omega, by go_num, by rw [HE2.out, List.length_append], ho4, (HB.out.alloc hz _).trans (hb4.below fun _ h => h)⟩
        case measure => simp [intOf]; omega
      · obtain rfl : j = n := by omega
        have hfin : sigL k cl j l j = sigB k cl l := by have := sigL_all k cl l; rwa [HL.out] at this
        have HF := Lib.hid hfin
        clear hfin
        go_wp2_with fail
        go_returns
        rw [← HF.out]
        exact ⟨A', d, rfl, HO.out, HB.out⟩
set_option maxHeartbeats 1000000 in
theorem refputsig_any (n : Nat) (k cl : Int) (l : List Ty) (hn : n ≤ 281474976710656) (hb : tyB k cl) : SPutSaid 11 n k cl l (sigP k cl l) (sigE k cl l) := by
  intro w A c B hr hB
  have HM := Lib.hid (fun w (hr : RV tyR w B A n l) (hB : B ≤ w.heap.size) => refmaysig_any A n c B k cl l w hr hB hn hb)
  have HV := Lib.hid hr
  have HL := Lib.hid hr.len
  unfold sigP sigE
  cases hm : maySB k cl l
  · rw [hm] at HM
    clear hm hr
    go_enter Try.func11, Try.ntmps11
    go_wp2_with fail
    refine (HM.out _ (HV.out.alloc hB _) (by simp; omega)).mono ?_
    rintro e w1 ⟨rfl, hb1⟩
    go_wp2_with fail
    go_returns
    exact ⟨none, 0, rfl, OS.nil_, ((Below.refl _ _).alloc (Nat.le_refl _) _).trans (hb1.mono (by simp))⟩
  · have h15 := may15 hm
    have hmt : allMay l = true ∧ (¬ k = 0 → mayT k cl = true) ∧ (k = 0 → encT k cl = [0]) := by
      have h := hm
      unfold maySB at h
      simp only [Bool.and_eq_true] at h
      refine ⟨h.2.2, fun hk => ?_, fun hk => by subst hk; rfl⟩
      have := h.1
      unfold mayR at this
      rw [decide_eq_false hk] at this
      simpa using this
    rw [hr.len] at h15
    rw [hm] at HM
    clear hm hr
    simp only [↓reduceIte]
    have e1 := (encT_len k cl).1
    have hd1 : dig (n : Int) 1 = [(n : Int)] := by rw [dig_1, Int.emod_eq_of_lt (by omega) (by omega)]
    have HD := Lib.hid hd1
    have HAM := Lib.hid hmt.1
    have hr1 : rng [(n : Int)] := by intro x hx; simp at hx; subst hx; omega
    have HR1 := Lib.hid hr1
    clear hr1 hd1
    have e3 : (sigL k cl n l 0).length = (encT k cl).length + 1 := by rw [sigL_0, List.length_append, dig_len]
    have HE3 := Lib.hid e3
    clear e3
    have HP := Lib.hid (reftput_any k cl hb)
    have hcase : (k = 0 ∧ encT k cl = [0]) ∨ (¬ k = 0 ∧ putP k cl = encT k cl ∧ putE k cl = 0) := by
      by_cases hk : k = 0
      · exact .inl ⟨hk, hmt.2.2 hk⟩
      · exact .inr ⟨hk, by unfold putP; rw [hmt.2.1 hk]; rfl, by unfold putE; rw [hmt.2.1 hk]; rfl⟩
    have HCASE := Lib.hid hcase
    clear hmt hcase
    go_enter Try.func11, Try.ntmps11
    go_wp2_with fail
    refine (HM.out _ (HV.out.alloc hB _) (by simp; omega)).mono ?_
    rintro e w1 ⟨rfl, hb1⟩
    have z1 : w.heap.size < w1.heap.size := by have := hb1.size; simp at this; omega
    have B1 : Below w.heap.size w w1 := ((Below.refl _ _).alloc (Nat.le_refl _) _).trans (hb1.mono (by simp))
    have g0 : w1.cell? ⟨w.heap.size, 0, none⟩ = some (.slice A n c) := (hb1.cell (p := ⟨w.heap.size, 0, none⟩) (by simp)).trans (by go_simp)
    have g1 : w1.cell? ⟨w.heap.size, 1, none⟩ = some (.int .u8 k) := (hb1.cell (p := ⟨w.heap.size, 1, none⟩) (by simp)).trans (by go_simp)
    have g2 : w1.cell? ⟨w.heap.size, 2, none⟩ = some (.int .u16 cl) := (hb1.cell (p := ⟨w.heap.size, 2, none⟩) (by simp)).trans (by go_simp)
    clear hb1
    go_upto_if 15 with (fail)
    go_cut [4] from 15 to 21 (fun v wx => ∃ A2 d2, v = .slice A2 (encT k cl).length d2 ∧ OS wx (Lt (w.heap.size + 1)) A2 (encT k cl).length d2 (encT k cl) ∧ wx.cell? ⟨w.heap.size, 0, none⟩ = some (.slice A n c) ∧ w.heap.size < wx.heap.size ∧ Below w.heap.size w wx)
    case first =>
      have g3 : (w1.alloc (.cells #[.int .u8 0] 5)).cell? ⟨w.heap.size, 0, none⟩ = some (.slice A n c) := by go_simp
      have z3 : w.heap.size < (w1.alloc (.cells #[.int .u8 0] 5)).heap.size := by simp; omega
      have B3 := Lib.hid (B1.alloc B1.size (.cells #[.int .u8 0] 5))
      rcases HCASE.out with ⟨rfl, he⟩ | ⟨hk, hp1, hp2⟩
      · have HE0 := Lib.hid he
        clear he
        have ho2 := OS.fresh w1 (Lt (w.heap.size + 1)) (by unfold Lt; omega) [0] 1 rfl (by simp [maxLen]) (rng_lit rfl)
        have HO2 := Lib.hid ho2
        clear ho2
        go_wp2_with fail
        go_meet
        exact ⟨_, 1, rfl, HO2.out, g3, z3, B3.out⟩
      · have hkb : (k == 0) = false := by simpa using hk
        have hkn : (k != 0) = true := by simpa using hk
        have HP1 := Lib.hid hp1
        have HP2 := Lib.hid hp2
        clear hp1 hp2
        go_wp2_with fail
        refine (HP.out _).mono ?_
        rintro e w2 ⟨A2, d2, rfl, ho2, hb2⟩
        rw [HP1.out] at ho2
        go_wp2_with fail
        go_meet
        exact ⟨A2, d2, by rw [HP1.out], ho2.less (fun j hj => by unfold Lt at *; simp; omega), (hb2.cell (p := ⟨w.heap.size, 0, none⟩) z3).trans g3, Nat.lt_of_lt_of_le z3 hb2.size, B3.out.trans (hb2.mono (Nat.le_of_lt z3))⟩
    case rest =>
      clear g0 g1 g2 B1 z1
      obtain ⟨A2, d2, rfl, ho2, g0, z2, B2⟩ := hcut
      have HO2 := Lib.hid ho2
      clear ho2
      have i1 : ((n : Int) % 256) = n := Int.emod_eq_of_lt (by omega) (by omega)
      go_wp2_with (at_builtin; refine wpList_appS rfl _ _ rfl (Lt (w.heap.size + 1)) A2 _ d2 _ rfl (HO2.out.alloc _) _ _ 1 1 [(n : Int)] rfl (rd_lit wc [(n : Int)] 1 rfl (by simp [maxLen]) HR1.out) (sigL k cl n l 0).length HE3.out (sigL k cl n l 0) (by rw [sigL_0, HD.out]) (by omega) (fun j hj => by unfold Lt at hj; simp; omega) ?_; intro A3 d3 w3 ho3 hb3)
      have B3 := Lib.hid ((B2.alloc (Nat.le_of_lt z2) _).trans (hb3.below (B := w.heap.size) (fun j hj => by unfold Lt; omega)))
      have g3 := (hb3.cell (p := ⟨w.heap.size, 0, none⟩) (by unfold Lt; simp)).trans ((World.cell?_alloc_lt wc _ ⟨w.heap.size, 0, none⟩ z2).trans g0)
      have z3 : w.heap.size < w3.heap.size := by have := hb3.size; simp at this; omega
      have HO3 := Lib.hid ho3
      clear ho3 hb3 g0 z2 B2 i1
      go_loopw [4, 5] (fun v i wr => ∃ (j d : Nat) (A' : Option Addr), j ≤ n ∧ i = .int .i64 j ∧ v = .slice A' (sigL k cl n l j).length d ∧ OS wr (Lt (w.heap.size + 1)) A' (sigL k cl n l j).length d (sigL k cl n l j) ∧ w.heap.size < wr.heap.size ∧ wr.cell? ⟨w.heap.size, 0, none⟩ = some (.slice A n c) ∧ Below w.heap.size w wr) (fun _ i _ => n - (intOf i).toNat)
      case atStart => exact ⟨0, d3, A3, Nat.zero_le _, rfl, rfl, HO3.out, z3, g3, B3.out⟩
      case round =>
        clear g3 z3
        obtain ⟨j, d, A', hj, rfl, rfl, hor, hz, g0, hbr⟩ := hrel
        have HO := Lib.hid hor
        have HB := Lib.hid hbr
        clear hor hbr
        have hl60 := sigL_len k cl n l j (by omega)
        by_cases hlt : j < n
        · obtain ⟨b, off, rfl, hbb, q0, q1, qb⟩ := (HV.out.below HB.out hB).ty j hlt
          have HE := Lib.hid (sigL_snoc k cl n l j (by rw [HL.out]; exact hlt))
          have hmj : mayT (l.getD j (0, 0)).1 (l.getD j (0, 0)).2 = true := by
            cases h : mayT (l.getD j (0, 0)).1 (l.getD j (0, 0)).2
            · have h2 := allMay_no l j (by rw [HL.out]; exact hlt) h
              have h3 := HAM.out
              rw [h2] at h3
              cases h3
            · rfl
          generalize l.getD j (0, 0) = p at q0 q1 qb HE hmj
          obtain ⟨p1, p2⟩ := p
          simp only at q0 q1 qb HE hmj
          have hP := reftput_any p1 p2 qb
          unfold putP putE at hP
          rw [hmj] at hP
          simp only [↓reduceIte] at hP
          have HP := Lib.hid hP
          have e4 := (encT_len p1 p2).1
          have HE2 := Lib.hid (congrArg List.length HE.out)
          clear hP hmj
          go_wp2_with fail
          refine (HP.out _).mono ?_
          rintro e w4 ⟨A4, d4, rfl, ho4, hb4⟩
          have HO4 := Lib.hid ho4
          clear ho4
          go_wp2_with (at_builtin; refine wpList_appS rfl _ _ rfl (Lt (w.heap.size + 1)) A' _ d _ rfl (HO.out.below hb4) _ A4 _ d4 (encT p1 p2) rfl HO4.out.rd (sigL k cl n l (j + 1)).length (by rw [HE2.out, List.length_append]) (sigL k cl n l (j + 1)) HE.out (by omega) (fun j hj => by have := hb4.size; unfold Lt at hj; omega) ?_; intro A5 d5 w5 ho5 hb5)
          go_roundw
          case rel => exact ⟨j + 1, d5, A5, by omega, by go_num, rfl, ho5, Nat.lt_of_lt_of_le hz (Nat.le_trans hb4.size hb5.size), (hb5.cell (p := ⟨w.heap.size, 0, none⟩) (by unfold Lt; simp)).trans ((hb4.cell (p := ⟨w.heap.size, 0, none⟩) hz).trans g0), (HB.out.trans (hb4.mono (Nat.le_of_lt hz))).trans (hb5.below fun j hj => by unfold Lt; omega)⟩
          case measure => simp [intOf]; omega
        · obtain rfl : j = n := by omega
          have hfin : sigL k cl j l j = sigB k cl l := by have := sigL_all k cl l; rwa [HL.out] at this
          have HF := Lib.hid hfin
          clear hfin
          go_wp2_with fail
          go_returns
          rw [← HF.out]
          exact ⟨A', d, rfl, HO.out.less (fun j hj => by unfold Lt at *; omega), HB.out⟩
end Go.Proofs.Ytihdfogcnghfaaa
