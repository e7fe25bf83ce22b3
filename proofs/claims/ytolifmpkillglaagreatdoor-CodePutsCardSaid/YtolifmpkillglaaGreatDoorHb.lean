import Derived.Test.YtolifmpkillglaaGreatDoorHa
set_option linter.unusedVariables false
set_option maxRecDepth 100000
namespace Go.Proofs.YtolifmpkillglaaGreatDoor
open Go.RowKit
/-! Rows of ints and of words: are they the same? -/
def inR : Rec Int where
  enc x := [.int .i64 x]
  m := 1
  ok _ := True
  d := 0
  len _ := rfl
  one _ u hu := by simp at hu; subst hu; rfl
  pos := by decide
  okd := trivial
def woR : Rec Int where
  enc x := [.int .u16 x]
  m := 1
  ok x := 0 ≤ x ∧ x < 65536
  d := 0
  len _ := rfl
  one _ u hu := by simp at hu; subst hu; rfl
  pos := by decide
  okd := ⟨by decide, by decide⟩
theorem RV.in1 {w : World} {B n : Nat} {A : Option Addr} {l : List Int} (h : RV inR w B A n l) (k : Nat) (hk : k < n) : ∃ b off, A = some ⟨b, off, none⟩ ∧ b < B ∧ w.cell? ⟨b, off + k, none⟩ = some (.int .i64 (l.getD k 0)) := by
  obtain ⟨b, o, e, hb, hc⟩ := h.2.2 (by omega)
  have := hc k hk 0 (by decide)
  have e2 : o + (k * inR.m + 0) = o + k := by show o + (k * 1 + 0) = o + k; omega
  rw [e2] at this
  exact ⟨b, o, e, hb, this⟩
theorem RV.wo1 {w : World} {B n : Nat} {A : Option Addr} {l : List Int} (h : RV woR w B A n l) (k : Nat) (hk : k < n) : ∃ b off, A = some ⟨b, off, none⟩ ∧ b < B ∧ w.cell? ⟨b, off + k, none⟩ = some (.int .u16 (l.getD k 0)) := by
  obtain ⟨b, o, e, hb, hc⟩ := h.2.2 (by omega)
  have := hc k hk 0 (by decide)
  have e2 : o + (k * woR.m + 0) = o + k := by show o + (k * 1 + 0) = o + k; omega
  rw [e2] at this
  exact ⟨b, o, e, hb, this⟩
theorem drop_step (l1 l2 : List Int) (k : Nat) (h1 : k < l1.length) (h2 : k < l2.length) : (l1.drop k = l2.drop k ↔ l1.getD k 0 = l2.getD k 0 ∧ l1.drop (k + 1) = l2.drop (k + 1)) := by
  rw [List.drop_eq_getElem_cons h1, List.drop_eq_getElem_cons h2, List.getD_eq_getElem?_getD, List.getD_eq_getElem?_getD, List.getElem?_eq_getElem h1, List.getElem?_eq_getElem h2]
  simp only [Option.getD_some, List.cons.injEq]
set_option maxHeartbeats 1000000 in
theorem ints_any (A1 A2 : Option Addr) (n1 n2 c1 c2 B1 B2 : Nat) (l1 l2 : List Int) (w : World) (hn1 : n1 ≤ 281474976710656) (hn2 : n2 ≤ 281474976710656) (h1 : RV inR w B1 A1 n1 l1) (h2 : RV inR w B2 A2 n2 l2) :
    Calls Tryz.prog 34 #[.slice A1 n1 c1, .slice A2 n2 c2] w fun e w' => e = .returned (.bool (decide (l1 = l2))) ∧ ∃ q, w' = w.drewN q := by
  by_cases hn : n1 = n2
  · subst hn
    have hneq : ((n1 : Int) != (n1 : Int)) = false := by simp
    have HL := Lib.hid (show l1.length = n1 ∧ l2.length = n1 from ⟨h1.1, h2.1⟩)
    have H1 := Lib.hid h1
    have H2 := Lib.hid h2
    clear h1 h2
    go_enter Tryz.func34, Tryz.ntmps34
    go_wp2
    go_loopw [5] (fun i wr => ∃ k q : Nat, k ≤ n1 ∧ i = .int .i64 k ∧ wr = w.drewN q ∧ (l1 = l2 ↔ l1.drop k = l2.drop k)) (fun i _ => n1 - (intOf i).toNat)
    case atStart => exact ⟨0, 0, Nat.zero_le _, rfl, rfl, by simp⟩
    case round =>
      obtain ⟨k, q, hk, rfl, rfl, hd⟩ := hrel
      by_cases hlt : k < n1
      · obtain ⟨b1, o1, rfl, _, g1⟩ := H1.out.in1 k hlt
        obtain ⟨b2, o2, rfl, _, g2⟩ := H2.out.in1 k hlt
        have hs := drop_step l1 l2 k (by rw [HL.out.1]; exact hlt) (by rw [HL.out.2]; exact hlt)
        rw [hs] at hd
        generalize l1.getD k 0 = x at g1 hd
        generalize l2.getD k 0 = y at g2 hd
        have i0 : (0 : Int) ≤ (k : Int) := by omega
        have i1 : (k : Int) < (n1 : Int) := by omega
        by_cases hxy : x = y
        · have hd2 : l1 = l2 ↔ l1.drop (k + 1) = l2.drop (k + 1) := by rw [hd]; exact ⟨fun h => h.2, fun h => ⟨hxy, h⟩⟩
          have HD := Lib.hid hd2
          have b1' : (x == y) = true := by simpa using hxy
          have b2' : (x != y) = false := by simpa using hxy
          clear hd hd2 hs hxy
          go_wp2
          go_quiet (fail)
          go_wp2
          go_roundw
          case rel => exact ⟨k + 1, _, by omega, by go_num, rfl, HD.out⟩
          case measure => simp [intOf]; omega
        · have hne : l1 ≠ l2 := fun h => hxy (hd.1 h).1
          have HN := Lib.hid hne
          have b1' : (x == y) = false := by simpa using hxy
          have b2' : (x != y) = true := by simpa using hxy
          clear hd hs hxy hne
          go_wp2
          go_quiet (fail)
          go_wp2
          go_returns
          exact ⟨by rw [decide_eq_false HN.out]; rfl, by simp only [World.drewN_drewN]; exact ⟨_, rfl⟩⟩
      · obtain rfl : k = n1 := by omega
        have he : l1 = l2 := hd.2 (by rw [List.drop_of_length_le (by rw [HL.out.1]; omega), List.drop_of_length_le (by rw [HL.out.2]; omega)])
        have HE := Lib.hid (decide_eq_true he)
        clear he hd
        go_wp2
        go_returns
        exact ⟨by rw [HE.out]; rfl, q, rfl⟩
  · have hneq : ((n1 : Int) != (n2 : Int)) = true := by rw [bne_iff_ne]; omega
    have hne : decide (l1 = l2) = false := by
      refine decide_eq_false (fun e => hn ?_)
      rw [← h1.len, ← h2.len, e]
    rw [hne]
    clear h1 h2 hne hn
    go_enter Tryz.func34, Tryz.ntmps34
    go_wp2
    go_returns
    exact ⟨rfl, 0, rfl⟩
set_option maxHeartbeats 1000000 in
theorem words_any (A1 A2 : Option Addr) (n1 n2 c1 c2 B1 B2 : Nat) (l1 l2 : List Int) (w : World) (hn1 : n1 ≤ 281474976710656) (hn2 : n2 ≤ 281474976710656) (h1 : RV woR w B1 A1 n1 l1) (h2 : RV woR w B2 A2 n2 l2) :
    Calls Tryz.prog 35 #[.slice A1 n1 c1, .slice A2 n2 c2] w fun e w' => e = .returned (.bool (decide (l1 = l2))) ∧ ∃ q, w' = w.drewN q := by
  by_cases hn : n1 = n2
  · subst hn
    have hneq : ((n1 : Int) != (n1 : Int)) = false := by simp
    have HL := Lib.hid (show l1.length = n1 ∧ l2.length = n1 from ⟨h1.1, h2.1⟩)
    have H1 := Lib.hid h1
    have H2 := Lib.hid h2
    clear h1 h2
    go_enter Tryz.func35, Tryz.ntmps35
    go_wp2
    go_loopw [5] (fun i wr => ∃ k q : Nat, k ≤ n1 ∧ i = .int .i64 k ∧ wr = w.drewN q ∧ (l1 = l2 ↔ l1.drop k = l2.drop k)) (fun i _ => n1 - (intOf i).toNat)
    case atStart => exact ⟨0, 0, Nat.zero_le _, rfl, rfl, by simp⟩
    case round =>
      obtain ⟨k, q, hk, rfl, rfl, hd⟩ := hrel
      by_cases hlt : k < n1
      · obtain ⟨b1, o1, rfl, _, g1⟩ := H1.out.wo1 k hlt
        obtain ⟨b2, o2, rfl, _, g2⟩ := H2.out.wo1 k hlt
        have hs := drop_step l1 l2 k (by rw [HL.out.1]; exact hlt) (by rw [HL.out.2]; exact hlt)
        rw [hs] at hd
        generalize l1.getD k 0 = x at g1 hd
        generalize l2.getD k 0 = y at g2 hd
        have i0 : (0 : Int) ≤ (k : Int) := by omega
        have i1 : (k : Int) < (n1 : Int) := by omega
        by_cases hxy : x = y
        · have hd2 : l1 = l2 ↔ l1.drop (k + 1) = l2.drop (k + 1) := by rw [hd]; exact ⟨fun h => h.2, fun h => ⟨hxy, h⟩⟩
          have HD := Lib.hid hd2
          have b1' : (x == y) = true := by simpa using hxy
          have b2' : (x != y) = false := by simpa using hxy
          clear hd hd2 hs hxy
          go_wp2
          go_quiet (fail)
          go_wp2
          go_roundw
          case rel => exact ⟨k + 1, _, by omega, by go_num, rfl, HD.out⟩
          case measure => simp [intOf]; omega
        · have hne : l1 ≠ l2 := fun h => hxy (hd.1 h).1
          have HN := Lib.hid hne
          have b1' : (x == y) = false := by simpa using hxy
          have b2' : (x != y) = true := by simpa using hxy
          clear hd hs hxy hne
          go_wp2
          go_quiet (fail)
          go_wp2
          go_returns
          exact ⟨by rw [decide_eq_false HN.out]; rfl, by simp only [World.drewN_drewN]; exact ⟨_, rfl⟩⟩
      · obtain rfl : k = n1 := by omega
        have he : l1 = l2 := hd.2 (by rw [List.drop_of_length_le (by rw [HL.out.1]; omega), List.drop_of_length_le (by rw [HL.out.2]; omega)])
        have HE := Lib.hid (decide_eq_true he)
        clear he hd
        go_wp2
        go_returns
        exact ⟨by rw [HE.out]; rfl, q, rfl⟩
  · have hneq : ((n1 : Int) != (n2 : Int)) = true := by rw [bne_iff_ne]; omega
    have hne : decide (l1 = l2) = false := by
      refine decide_eq_false (fun e => hn ?_)
      rw [← h1.len, ← h2.len, e]
    rw [hne]
    clear h1 h2 hne hn
    go_enter Tryz.func35, Tryz.ntmps35
    go_wp2
    go_returns
    exact ⟨rfl, 0, rfl⟩
end Go.Proofs.YtolifmpkillglaaGreatDoor
