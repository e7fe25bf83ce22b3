import Derived.Test.YtolifmpkillglaaGreatDoorJf
set_option linter.unusedVariables false
set_option maxRecDepth 100000
namespace Go.Proofs.YtolifmpkillglaaGreatDoor
open Go.RowKit
/-! Equal or not: ints, words, instructions, rows of them. -/
def EqT (e : Ending) (p : Prop) : Prop := ∃ b, e = .returned (.bool b) ∧ (b = true → p)
theorem EqT.no {e : Ending} {p : Prop} (h : e = .returned (.bool false)) : EqT e p := ⟨false, h, fun h => by cases h⟩
theorem EqT.yes {e : Ending} {p : Prop} (h : e = .returned (.bool true)) (hp : p) : EqT e p := ⟨true, h, fun _ => hp⟩
set_option maxHeartbeats 1000000 in
theorem eqI_u (A1 A2 : Option Addr) (n1 n2 c1 c2 B1 B2 : Nat) (l1 l2 : List Int) (w : World) (hn1 : n1 ≤ 281474976710656) (hn2 : n2 ≤ 281474976710656) (h1 : RV inR w B1 A1 n1 l1) (h2 : RV inR w B2 A2 n2 l2) :
    Calls Tryz.prog 26 #[.slice A1 n1 c1, .slice A2 n2 c2] w fun e w' => EqT e (l1 = l2) ∧ ∃ q, w' = w.drewN q := by
  by_cases hne : n1 = n2
  · subst hne
    have hneq : ((n1 : Int) != (n1 : Int)) = false := by simp
    have HL := Lib.hid (show l1.length = n1 ∧ l2.length = n1 from ⟨h1.len, h2.len⟩)
    have H1 := Lib.hid h1
    have H2 := Lib.hid h2
    clear h1 h2
    go_enter Tryz.func26, Tryz.ntmps26
    go_wp2_with fail
    go_loopw [13] (fun i wr => ∃ k q : Nat, k ≤ n1 ∧ i = .int .i64 k ∧ l1.take k = l2.take k ∧ wr = w.drewN q) (fun i _ => n1 - (intOf i).toNat)
    case atStart => exact ⟨0, 0, Nat.zero_le _, rfl, rfl, rfl⟩
    case round =>
      obtain ⟨k, q, hk, rfl, htk, rfl⟩ := hrel
      have HTK := Lib.hid htk
      clear htk
      have i0 : (0 : Int) ≤ (k : Int) := by omega
      by_cases hlt : (k : Int) < (n1 : Int)
      · obtain ⟨b1, o1, rfl, _, g1⟩ := H1.out.in1 k (by omega)
        obtain ⟨b2, o2, rfl, _, g2⟩ := H2.out.in1 k (by omega)
        have hs : l1.getD k 0 = l2.getD k 0 → l1.take (k + 1) = l2.take (k + 1) := fun h => by
          rw [take_snoc l1 k (by rw [HL.out.1]; omega), take_snoc l2 k (by rw [HL.out.2]; omega), HTK.out, h]
        generalize l1.getD k 0 = x at g1 hs
        generalize l2.getD k 0 = y at g2 hs
        by_cases hxy : x = y
        · have HS := Lib.hid (hs hxy)
          subst hxy
          clear hs
          have b2' : (x != x) = false := by simp
          go_wp2_with fail
          go_quiet (fail)
          go_wp2_with fail
          go_roundw
          case rel => exact ⟨k + 1, _, by omega, by go_num, HS.out, rfl⟩
          case measure => simp [intOf]; omega
        · have b2' : (x != y) = true := by simpa using hxy
          clear hs hxy
          go_wp2_with fail
          go_quiet (fail)
          go_wp2_with fail
          go_returns
          exact ⟨.no rfl, by simp only [World.drewN_drewN]; exact ⟨_, rfl⟩⟩
      · obtain rfl : k = n1 := by omega
        have hE : l1 = l2 := by
          have := HTK.out
          rwa [List.take_of_length_le (by rw [HL.out.1]; exact Nat.le_refl _), List.take_of_length_le (by rw [HL.out.2]; exact Nat.le_refl _)] at this
        have HE := Lib.hid hE
        clear hE
        go_wp2_with fail
        go_returns
        exact ⟨.yes rfl HE.out, q, rfl⟩
  · have hneq : ((n1 : Int) != (n2 : Int)) = true := by rw [bne_iff_ne]; omega
    clear h1 h2
    go_enter Tryz.func26, Tryz.ntmps26
    go_wp2_with fail
    go_returns
    exact ⟨.no rfl, 0, rfl⟩
set_option maxHeartbeats 1000000 in
theorem eqW_u (A1 A2 : Option Addr) (n1 n2 c1 c2 B1 B2 : Nat) (l1 l2 : List Int) (w : World) (hn1 : n1 ≤ 281474976710656) (hn2 : n2 ≤ 281474976710656) (h1 : RV woR w B1 A1 n1 l1) (h2 : RV woR w B2 A2 n2 l2) :
    Calls Tryz.prog 27 #[.slice A1 n1 c1, .slice A2 n2 c2] w fun e w' => EqT e (l1 = l2) ∧ ∃ q, w' = w.drewN q := by
  by_cases hne : n1 = n2
  · subst hne
    have hneq : ((n1 : Int) != (n1 : Int)) = false := by simp
    have HL := Lib.hid (show l1.length = n1 ∧ l2.length = n1 from ⟨h1.len, h2.len⟩)
    have H1 := Lib.hid h1
    have H2 := Lib.hid h2
    clear h1 h2
    go_enter Tryz.func27, Tryz.ntmps27
    go_wp2_with fail
    go_loopw [13] (fun i wr => ∃ k q : Nat, k ≤ n1 ∧ i = .int .i64 k ∧ l1.take k = l2.take k ∧ wr = w.drewN q) (fun i _ => n1 - (intOf i).toNat)
    case atStart => exact ⟨0, 0, Nat.zero_le _, rfl, rfl, rfl⟩
    case round =>
      obtain ⟨k, q, hk, rfl, htk, rfl⟩ := hrel
      have HTK := Lib.hid htk
      clear htk
      have i0 : (0 : Int) ≤ (k : Int) := by omega
      by_cases hlt : (k : Int) < (n1 : Int)
      · obtain ⟨b1, o1, rfl, _, g1⟩ := H1.out.wo1 k (by omega)
        obtain ⟨b2, o2, rfl, _, g2⟩ := H2.out.wo1 k (by omega)
        have hs : l1.getD k 0 = l2.getD k 0 → l1.take (k + 1) = l2.take (k + 1) := fun h => by
          rw [take_snoc l1 k (by rw [HL.out.1]; omega), take_snoc l2 k (by rw [HL.out.2]; omega), HTK.out, h]
        generalize l1.getD k 0 = x at g1 hs
        generalize l2.getD k 0 = y at g2 hs
        by_cases hxy : x = y
        · have HS := Lib.hid (hs hxy)
          subst hxy
          clear hs
          have b2' : (x != x) = false := by simp
          go_wp2_with fail
          go_quiet (fail)
          go_wp2_with fail
          go_roundw
          case rel => exact ⟨k + 1, _, by omega, by go_num, HS.out, rfl⟩
          case measure => simp [intOf]; omega
        · have b2' : (x != y) = true := by simpa using hxy
          clear hs hxy
          go_wp2_with fail
          go_quiet (fail)
          go_wp2_with fail
          go_returns
          exact ⟨.no rfl, by simp only [World.drewN_drewN]; exact ⟨_, rfl⟩⟩
      · obtain rfl : k = n1 := by omega
        have hE : l1 = l2 := by
          have := HTK.out
          rwa [List.take_of_length_le (by rw [HL.out.1]; exact Nat.le_refl _), List.take_of_length_le (by rw [HL.out.2]; exact Nat.le_refl _)] at this
        have HE := Lib.hid hE
        clear hE
        go_wp2_with fail
        go_returns
        exact ⟨.yes rfl HE.out, q, rfl⟩
  · have hneq : ((n1 : Int) != (n2 : Int)) = true := by rw [bne_iff_ne]; omega
    clear h1 h2
    go_enter Tryz.func27, Tryz.ntmps27
    go_wp2_with fail
    go_returns
    exact ⟨.no rfl, 0, rfl⟩
set_option maxHeartbeats 4000000 in
theorem same_u (x1 x2 : Ins) (r1 r2 : RI) (w : World) (B1 B2 : Nat) (h1 : InsR w B1 r1 x1) (h2 : InsR w B2 r2 x2) (hB1 : B1 ≤ w.heap.size) (hB2 : B2 ≤ w.heap.size) (ht : r1.tn ≤ 70000 ∧ r1.mn ≤ 70000) (ht2 : r2.tn ≤ 70000 ∧ r2.mn ≤ 70000) :
    Calls Tryz.prog 13 #[r1.val, r2.val] w fun e w' => EqT e (x1 = x2) ∧ Below w.heap.size w w' := by
  obtain ⟨hsc1, t1, m1, _, _⟩ := h1
  obtain ⟨hsc2, t2, m2, _, _⟩ := h2
  obtain ⟨⟨s0, s1, s2, s3, s4, s5, s6, s7⟩, tA, tn, tc, mA, mn, mc⟩ := r1
  obtain ⟨⟨u0, u1, u2, u3, u4, u5, u6, u7⟩, tA2, tn2, tc2, mA2, mn2, mc2⟩ := r2
  obtain ⟨_, tab, mat⟩ := x1
  obtain ⟨_, tab2, mat2⟩ := x2
  simp only at hsc1 hsc2 t1 m1 t2 m2 ht ht2
  subst hsc1 hsc2
  unfold RI.val
  simp only
  obtain ⟨X, Y, bx⟩ := two_box w #[.int .i64 s0, .int .u8 s1, .int .i64 s2, .int .u8 s3, .int .u16 s4, .int .i64 s5, .int .i64 s6, .slice tA tn tc, .slice mA mn mc, .int .u16 s7] #[.int .i64 u0, .int .u8 u1, .int .i64 u2, .int .u8 u3, .int .u16 u4, .int .i64 u5, .int .i64 u6, .slice tA2 tn2 tc2, .slice mA2 mn2 mc2, .int .u16 u7] 28
  have HX := Lib.hid X
  have HY := Lib.hid Y
  have HB := Lib.hid bx
  have HI : Hid (∀ W, Below w.heap.size w W → Calls Tryz.prog 26 #[.slice tA tn tc, .slice tA2 tn2 tc2] W fun e w' => EqT e (tab = tab2) ∧ ∃ q, w' = W.drewN q) := Lib.hid (fun W hW => eqI_u tA tA2 tn tn2 tc tc2 B1 B2 tab tab2 W (by omega) (by omega) (t1.below hW hB1) (t2.below hW hB2))
  have HW : Hid (∀ W, Below w.heap.size w W → Calls Tryz.prog 27 #[.slice mA mn mc, .slice mA2 mn2 mc2] W fun e w' => EqT e (mat = mat2) ∧ ∃ q, w' = W.drewN q) := Lib.hid (fun W hW => eqW_u mA mA2 mn mn2 mc mc2 B1 B2 mat mat2 W (by omega) (by omega) (m1.below hW hB1) (m2.below hW hB2))
  clear X Y bx t1 t2 m1 m2 ht ht2
  go_enter Tryz.func13, Tryz.ntmps13
  go_upto_region 1 with (fail)
  generalize (w.alloc (.cells #[.int .i64 s0, .int .u8 s1, .int .i64 s2, .int .u8 s3, .int .u16 s4, .int .i64 s5, .int .i64 s6, .slice tA tn tc, .slice mA mn mc, .int .u16 s7] 28)).alloc (.cells #[.int .i64 u0, .int .u8 u1, .int .i64 u2, .int .u8 u3, .int .u16 u4, .int .i64 u5, .int .i64 u6, .slice tA2 tn2 tc2, .slice mA2 mn2 mc2, .int .u16 u7] 28) = w1 at HX HY HB ⊢
  have x0 : w1.cell? ⟨w.heap.size, 0, none⟩ = some _ := HX.out.cell 0
  have z0 : w1.cell? ⟨w.heap.size + 1, 0, none⟩ = some _ := HY.out.cell 0
  have x1 : w1.cell? ⟨w.heap.size, 1, none⟩ = some _ := HX.out.cell 1
  have z1 : w1.cell? ⟨w.heap.size + 1, 1, none⟩ = some _ := HY.out.cell 1
  have x2 : w1.cell? ⟨w.heap.size, 2, none⟩ = some _ := HX.out.cell 2
  have z2 : w1.cell? ⟨w.heap.size + 1, 2, none⟩ = some _ := HY.out.cell 2
  have x3 : w1.cell? ⟨w.heap.size, 3, none⟩ = some _ := HX.out.cell 3
  have z3 : w1.cell? ⟨w.heap.size + 1, 3, none⟩ = some _ := HY.out.cell 3
  have x4 : w1.cell? ⟨w.heap.size, 4, none⟩ = some _ := HX.out.cell 4
  have z4 : w1.cell? ⟨w.heap.size + 1, 4, none⟩ = some _ := HY.out.cell 4
  have x5 : w1.cell? ⟨w.heap.size, 5, none⟩ = some _ := HX.out.cell 5
  have z5 : w1.cell? ⟨w.heap.size + 1, 5, none⟩ = some _ := HY.out.cell 5
  have x6 : w1.cell? ⟨w.heap.size, 6, none⟩ = some _ := HX.out.cell 6
  have z6 : w1.cell? ⟨w.heap.size + 1, 6, none⟩ = some _ := HY.out.cell 6
  have x7 : w1.cell? ⟨w.heap.size, 7, none⟩ = some _ := HX.out.cell 7
  have z7 : w1.cell? ⟨w.heap.size + 1, 7, none⟩ = some _ := HY.out.cell 7
  have x8 : w1.cell? ⟨w.heap.size, 8, none⟩ = some _ := HX.out.cell 8
  have z8 : w1.cell? ⟨w.heap.size + 1, 8, none⟩ = some _ := HY.out.cell 8
  have x9 : w1.cell? ⟨w.heap.size, 9, none⟩ = some _ := HX.out.cell 9
  have z9 : w1.cell? ⟨w.heap.size + 1, 9, none⟩ = some _ := HY.out.cell 9
  by_cases e0 : s0 = u0
  case neg =>
    have b0 : (s0 == u0) = false := by simpa using e0
    clear e0
    go_wp2_with fail
    go_returns
    exact ⟨.no rfl, HB.out⟩
  subst e0
  by_cases e1 : s1 = u1
  case neg =>
    have b1 : (s1 == u1) = false := by simpa using e1
    clear e1
    go_wp2_with fail
    go_returns
    exact ⟨.no rfl, HB.out⟩
  subst e1
  by_cases e2 : s2 = u2
  case neg =>
    have b2 : (s2 == u2) = false := by simpa using e2
    clear e2
    go_wp2_with fail
    go_returns
    exact ⟨.no rfl, HB.out⟩
  subst e2
  by_cases e3 : s3 = u3
  case neg =>
    have b3 : (s3 == u3) = false := by simpa using e3
    clear e3
    go_wp2_with fail
    go_returns
    exact ⟨.no rfl, HB.out⟩
  subst e3
  by_cases e4 : s4 = u4
  case neg =>
    have b4 : (s4 == u4) = false := by simpa using e4
    clear e4
    go_wp2_with fail
    go_returns
    exact ⟨.no rfl, HB.out⟩
  subst e4
  by_cases e5 : s5 = u5
  case neg =>
    have b5 : (s5 == u5) = false := by simpa using e5
    clear e5
    go_wp2_with fail
    go_returns
    exact ⟨.no rfl, HB.out⟩
  subst e5
  by_cases e6 : s6 = u6
  case neg =>
    have b6 : (s6 == u6) = false := by simpa using e6
    clear e6
    go_wp2_with fail
    go_returns
    exact ⟨.no rfl, HB.out⟩
  subst e6
  go_wp2_with fail
  refine (HI.out _ HB.out).mono ?_
  rintro e w5 ⟨⟨b, rfl, hb⟩, q5, rfl⟩
  have HB5 := Lib.hid (below_drewN HB.out q5)
  cases b
  · clear hb
    go_wp2_with fail
    go_returns
    exact ⟨.no rfl, HB5.out⟩
  · have HBT := Lib.hid (hb rfl)
    clear hb
    go_wp2_with fail
    refine (HW.out _ HB5.out).mono ?_
    rintro e w6 ⟨⟨b, rfl, hb⟩, q6, rfl⟩
    have HB6 := Lib.hid (below_drewN HB5.out q6)
    cases b
    · clear hb
      go_wp2_with fail
      go_returns
      exact ⟨.no rfl, by first | exact HB6.out | exact below_drewN HB.out _⟩
    · have HBM := Lib.hid (hb rfl)
      clear hb
      by_cases e7 : s7 = u7
      · subst e7
        go_wp2_with fail
        go_returns
        exact ⟨.yes rfl (by rw [HBT.out, HBM.out]), by first | exact HB6.out | exact below_drewN HB.out _⟩
      · have b7 : (s7 == u7) = false := by simpa using e7
        clear e7
        go_wp2_with fail
        go_returns
        exact ⟨.no rfl, by first | exact HB6.out | exact below_drewN HB.out _⟩
end Go.Proofs.YtolifmpkillglaaGreatDoor
