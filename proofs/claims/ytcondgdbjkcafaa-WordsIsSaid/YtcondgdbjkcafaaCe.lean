import Derived.Test.YtcondgdbjkcafaaCd
set_option linter.unusedVariables false
namespace Go.Proofs.Ytcondgdbjkcafaa
open Go.RowKit
/-! Is: does the condition hold, and the error. -/
def isv (c a b : Int) : Bool :=
  if c = 1 then decide (a = b) else if c = 2 then decide (¬ a = b) else if c = 3 then decide (S a < S b) else if c = 4 then decide (¬ S a < S b)
  else if c = 5 then decide (S b < S a) else if c = 6 then decide (¬ S b < S a) else false
def ie (c : Int) : Int := if 1 ≤ c ∧ c ≤ 6 then 0 else 2
theorem ret2 {x x' : Bool} {y y' : Int} (h : x = x') (h2 : y = y') : Ending.returned (.tuple #[.bool x, .int .i64 y]) = .returned (.tuple #[.bool x', .int .i64 y']) := by rw [h, h2]
theorem c_cases (c : Int) (o0 : 0 ≤ c) (o1 : c < 256) : c = 1 ∨ c = 2 ∨ c = 3 ∨ c = 4 ∨ c = 5 ∨ c = 6 ∨ (c = 0 ∨ 7 ≤ c) := by omega
theorem s_eq (a b : Int) (h0 : 0 ≤ a) (h1 : a < 65536) (g0 : 0 ≤ b) (g1 : b < 65536) : S a = S b ↔ a = b := by unfold S; split <;> split <;> omega
theorem is_any (c a b : Int) (w : World) (o0 : 0 ≤ c) (o1 : c < 256) (h0 : 0 ≤ a) (h1 : a < 65536) (g0 : 0 ≤ b) (g1 : b < 65536) :
    Calls Try.prog 20 #[.int .u8 c, .int .u16 a, .int .u16 b] w fun e w' => e = .returned (.tuple #[.bool (isv c a b), .int .i64 (ie c)]) ∧ w = w' := by
  have ha := s_bd a h0 h1
  have hb := s_bd b g0 g1
  have hs := s_eq a b h0 h1 g0 g1
  have HS := Lib.hid hs
  clear hs
  rcases c_cases c o0 o1 with rfl | rfl | rfl | rfl | rfl | rfl | h
  · by_cases h : a = b
    · have H := Lib.hid h
      have e1 : (a == b) = true := by simpa using h
      have e2 : (S a == S b) = true := by simpa using HS.out.2 h
      have e3 : (S a != S b) = false := by simpa using HS.out.2 h
      clear h
      go_enter Try.func20, Try.ntmps20
      go_wp2_with (go_call (worth_any _ _) as e w' ⟨rfl, rfl⟩)
      go_returns
      exact ⟨ret2 (by have h := H.out; first | (simp [isv]; done) | simp [isv, h]) rfl, rfl⟩
    · have H := Lib.hid h
      have e1 : (a == b) = false := by simpa using h
      have e2 : (S a == S b) = false := by simpa using fun k => h (HS.out.1 k)
      have e3 : (S a != S b) = true := by simpa using fun k => h (HS.out.1 k)
      clear h
      go_enter Try.func20, Try.ntmps20
      go_wp2_with (go_call (worth_any _ _) as e w' ⟨rfl, rfl⟩)
      go_returns
      exact ⟨ret2 (by have h := H.out; first | (simp [isv]; done) | simp [isv, h]) rfl, rfl⟩
  · by_cases h : a = b
    · have H := Lib.hid h
      have e1 : (a == b) = true := by simpa using h
      have e2 : (S a == S b) = true := by simpa using HS.out.2 h
      have e3 : (S a != S b) = false := by simpa using HS.out.2 h
      clear h
      go_enter Try.func20, Try.ntmps20
      go_wp2_with (go_call (worth_any _ _) as e w' ⟨rfl, rfl⟩)
      go_returns
      exact ⟨ret2 (by have h := H.out; first | (simp [isv]; done) | simp [isv, h]) rfl, rfl⟩
    · have H := Lib.hid h
      have e1 : (a == b) = false := by simpa using h
      have e2 : (S a == S b) = false := by simpa using fun k => h (HS.out.1 k)
      have e3 : (S a != S b) = true := by simpa using fun k => h (HS.out.1 k)
      clear h
      go_enter Try.func20, Try.ntmps20
      go_wp2_with (go_call (worth_any _ _) as e w' ⟨rfl, rfl⟩)
      go_returns
      exact ⟨ret2 (by have h := H.out; first | (simp [isv]; done) | simp [isv, h]) rfl, rfl⟩
  · by_cases h : S a < S b
    · have H := Lib.hid h
      go_enter Try.func20, Try.ntmps20
      go_wp2_with (go_call (worth_any _ _) as e w' ⟨rfl, rfl⟩)
      go_returns
      exact ⟨ret2 (by have h := H.out; first | (simp [isv]; done) | simp [isv, h]) rfl, rfl⟩
    · have H := Lib.hid h
      go_enter Try.func20, Try.ntmps20
      go_wp2_with (go_call (worth_any _ _) as e w' ⟨rfl, rfl⟩)
      go_returns
      exact ⟨ret2 (by have h := H.out; first | (simp [isv]; done) | simp [isv, h]) rfl, rfl⟩
  · by_cases h : S a < S b
    · have H := Lib.hid h
      go_enter Try.func20, Try.ntmps20
      go_wp2_with (go_call (worth_any _ _) as e w' ⟨rfl, rfl⟩)
      go_returns
      exact ⟨ret2 (by have h := H.out; first | (simp [isv]; done) | simp [isv, h]) rfl, rfl⟩
    · have H := Lib.hid h
      go_enter Try.func20, Try.ntmps20
      go_wp2_with (go_call (worth_any _ _) as e w' ⟨rfl, rfl⟩)
      go_returns
      exact ⟨ret2 (by have h := H.out; first | (simp [isv]; done) | simp [isv, h]) rfl, rfl⟩
  · by_cases h : S b < S a
    · have H := Lib.hid h
      go_enter Try.func20, Try.ntmps20
      go_wp2_with (go_call (worth_any _ _) as e w' ⟨rfl, rfl⟩)
      go_returns
      exact ⟨ret2 (by have h := H.out; first | (simp [isv]; done) | simp [isv, h]) rfl, rfl⟩
    · have H := Lib.hid h
      go_enter Try.func20, Try.ntmps20
      go_wp2_with (go_call (worth_any _ _) as e w' ⟨rfl, rfl⟩)
      go_returns
      exact ⟨ret2 (by have h := H.out; first | (simp [isv]; done) | simp [isv, h]) rfl, rfl⟩
  · by_cases h : S b < S a
    · have H := Lib.hid h
      go_enter Try.func20, Try.ntmps20
      go_wp2_with (go_call (worth_any _ _) as e w' ⟨rfl, rfl⟩)
      go_returns
      exact ⟨ret2 (by have h := H.out; first | (simp [isv]; done) | simp [isv, h]) rfl, rfl⟩
    · have H := Lib.hid h
      go_enter Try.func20, Try.ntmps20
      go_wp2_with (go_call (worth_any _ _) as e w' ⟨rfl, rfl⟩)
      go_returns
      exact ⟨ret2 (by have h := H.out; first | (simp [isv]; done) | simp [isv, h]) rfl, rfl⟩
  · have q1 : (c == 1) = false := by simp; omega
    have q2 : (c == 2) = false := by simp; omega
    have q3 : (c == 3) = false := by simp; omega
    have q4 : (c == 4) = false := by simp; omega
    have q5 : (c == 5) = false := by simp; omega
    have q6 : (c == 6) = false := by simp; omega
    go_enter Try.func20, Try.ntmps20
    go_wp2_with (go_call (worth_any _ _) as e w' ⟨rfl, rfl⟩)
    go_returns
    exact ⟨ret2 (by unfold isv; repeat (first | rw [if_neg (by omega)] | rfl)) (by unfold ie; rw [if_neg (by omega)]), rfl⟩
theorem refis_any (c a b : Int) (w : World) (o0 : 0 ≤ c) (o1 : c < 256) (h0 : 0 ≤ a) (h1 : a < 65536) (g0 : 0 ≤ b) (g1 : b < 65536) :
    Calls Try.prog 21 #[.int .u8 c, .int .u16 a, .int .u16 b] w fun e w' => e = .returned (.tuple #[.bool (isv c a b), .int .i64 (ie c)]) ∧ w = w' := by
  have ha := s_bd a h0 h1
  have hb := s_bd b g0 g1
  have hs := s_eq a b h0 h1 g0 g1
  have HS := Lib.hid hs
  clear hs
  rcases c_cases c o0 o1 with rfl | rfl | rfl | rfl | rfl | rfl | h
  · by_cases h : a = b
    · have H := Lib.hid h
      have e1 : (a == b) = true := by simpa using h
      have e2 : (S a == S b) = true := by simpa using HS.out.2 h
      have e3 : (S a != S b) = false := by simpa using HS.out.2 h
      clear h
      go_enter Try.func21, Try.ntmps21
      go_wp2_with (go_call (refworth_any _ _) as e w' ⟨rfl, rfl⟩)
      go_returns
      exact ⟨ret2 (by have h := H.out; first | (simp [isv]; done) | simp [isv, h]) rfl, rfl⟩
    · have H := Lib.hid h
      have e1 : (a == b) = false := by simpa using h
      have e2 : (S a == S b) = false := by simpa using fun k => h (HS.out.1 k)
      have e3 : (S a != S b) = true := by simpa using fun k => h (HS.out.1 k)
      clear h
      go_enter Try.func21, Try.ntmps21
      go_wp2_with (go_call (refworth_any _ _) as e w' ⟨rfl, rfl⟩)
      go_returns
      exact ⟨ret2 (by have h := H.out; first | (simp [isv]; done) | simp [isv, h]) rfl, rfl⟩
  · by_cases h : a = b
    · have H := Lib.hid h
      have e1 : (a == b) = true := by simpa using h
      have e2 : (S a == S b) = true := by simpa using HS.out.2 h
      have e3 : (S a != S b) = false := by simpa using HS.out.2 h
      clear h
      go_enter Try.func21, Try.ntmps21
      go_wp2_with (go_call (refworth_any _ _) as e w' ⟨rfl, rfl⟩)
      go_returns
      exact ⟨ret2 (by have h := H.out; first | (simp [isv]; done) | simp [isv, h]) rfl, rfl⟩
    · have H := Lib.hid h
      have e1 : (a == b) = false := by simpa using h
      have e2 : (S a == S b) = false := by simpa using fun k => h (HS.out.1 k)
      have e3 : (S a != S b) = true := by simpa using fun k => h (HS.out.1 k)
      clear h
      go_enter Try.func21, Try.ntmps21
      go_wp2_with (go_call (refworth_any _ _) as e w' ⟨rfl, rfl⟩)
      go_returns
      exact ⟨ret2 (by have h := H.out; first | (simp [isv]; done) | simp [isv, h]) rfl, rfl⟩
  · by_cases h : S a < S b
    · have H := Lib.hid h
      go_enter Try.func21, Try.ntmps21
      go_wp2_with (go_call (refworth_any _ _) as e w' ⟨rfl, rfl⟩)
      go_returns
      exact ⟨ret2 (by have h := H.out; first | (simp [isv]; done) | simp [isv, h]) rfl, rfl⟩
    · have H := Lib.hid h
      go_enter Try.func21, Try.ntmps21
      go_wp2_with (go_call (refworth_any _ _) as e w' ⟨rfl, rfl⟩)
      go_returns
      exact ⟨ret2 (by have h := H.out; first | (simp [isv]; done) | simp [isv, h]) rfl, rfl⟩
  · by_cases h : S a < S b
    · have H := Lib.hid h
      go_enter Try.func21, Try.ntmps21
      go_wp2_with (go_call (refworth_any _ _) as e w' ⟨rfl, rfl⟩)
      go_returns
      exact ⟨ret2 (by have h := H.out; first | (simp [isv]; done) | simp [isv, h]) rfl, rfl⟩
    · have H := Lib.hid h
      go_enter Try.func21, Try.ntmps21
      go_wp2_with (go_call (refworth_any _ _) as e w' ⟨rfl, rfl⟩)
      go_returns
      exact ⟨ret2 (by have h := H.out; first | (simp [isv]; done) | simp [isv, h]) rfl, rfl⟩
  · by_cases h : S b < S a
    · have H := Lib.hid h
      go_enter Try.func21, Try.ntmps21
      go_wp2_with (go_call (refworth_any _ _) as e w' ⟨rfl, rfl⟩)
      go_returns
      exact ⟨ret2 (by have h := H.out; first | (simp [isv]; done) | simp [isv, h]) rfl, rfl⟩
    · have H := Lib.hid h
      go_enter Try.func21, Try.ntmps21
      go_wp2_with (go_call (refworth_any _ _) as e w' ⟨rfl, rfl⟩)
      go_returns
      exact ⟨ret2 (by have h := H.out; first | (simp [isv]; done) | simp [isv, h]) rfl, rfl⟩
  · by_cases h : S b < S a
    · have H := Lib.hid h
      go_enter Try.func21, Try.ntmps21
      go_wp2_with (go_call (refworth_any _ _) as e w' ⟨rfl, rfl⟩)
      go_returns
      exact ⟨ret2 (by have h := H.out; first | (simp [isv]; done) | simp [isv, h]) rfl, rfl⟩
    · have H := Lib.hid h
      go_enter Try.func21, Try.ntmps21
      go_wp2_with (go_call (refworth_any _ _) as e w' ⟨rfl, rfl⟩)
      go_returns
      exact ⟨ret2 (by have h := H.out; first | (simp [isv]; done) | simp [isv, h]) rfl, rfl⟩
  · have q1 : (c == 1) = false := by simp; omega
    have q2 : (c == 2) = false := by simp; omega
    have q3 : (c == 3) = false := by simp; omega
    have q4 : (c == 4) = false := by simp; omega
    have q5 : (c == 5) = false := by simp; omega
    have q6 : (c == 6) = false := by simp; omega
    go_enter Try.func21, Try.ntmps21
    go_wp2_with (go_call (refworth_any _ _) as e w' ⟨rfl, rfl⟩)
    go_returns
    exact ⟨ret2 (by unfold isv; repeat (first | rw [if_neg (by omega)] | rfl)) (by unfold ie; rw [if_neg (by omega)]), rfl⟩
theorem holds_any (c a b : Int) (w : World) (o0 : 1 ≤ c) (o1 : c ≤ 6) (h0 : 0 ≤ a) (h1 : a < 65536) (g0 : 0 ≤ b) (g1 : b < 65536) :
    Calls Try.prog 22 #[.int .u8 c, .int .u16 a, .int .u16 b] w fun e w' => e = .returned (.bool (isv c a b)) ∧ w = w' := by
  have hi : ie c = 0 := if_pos ⟨o0, o1⟩
  by_cases h : isv c a b = true
  · go_enter Try.func22, Try.ntmps22
    go_wp2_with (go_call (is_any _ _ _) as e w' ⟨rfl, rfl⟩)
    go_returns
    exact ⟨by rw [h]; rfl, rfl⟩
  · have h' : isv c a b = false := by simpa using h
    clear h
    go_enter Try.func22, Try.ntmps22
    go_wp2_with (go_call (is_any _ _ _) as e w' ⟨rfl, rfl⟩)
    go_returns
    exact ⟨by rw [h']; rfl, rfl⟩
/-! THE LAWS. -/
theorem b8 {a : Int} (w : (Lit.int .u8 a).wf = true) : 0 ≤ a ∧ a < 256 := by
  simp [Lit.wf, IntKind.min, IntKind.max, IntKind.signed, IntKind.bits] at w; omega
theorem b16 {a : Int} (w : (Lit.int .u16 a).wf = true) : 0 ≤ a ∧ a < 65536 := by
  simp [Lit.wf, IntKind.min, IntKind.max, IntKind.signed, IntKind.bits] at w; omega
theorem walk_two (a0 a1 a2 : Int) (w0 : (Lit.int .u8 a0).wf = true) (w1 : (Lit.int .u16 a1).wf = true) (w2 : (Lit.int .u16 a2).wf = true) (w : World) :
    Calls Try.prog 3 #[.int .u8 a0, .int .u16 a1, .int .u16 a2] w fun e w' => e = .returned (.bool true) ∧ Grown w w' := by
  obtain ⟨o0, o1⟩ := b8 w0
  obtain ⟨h0, h1⟩ := b16 w1
  obtain ⟨g0, g1⟩ := b16 w2
  clear w0 w1 w2
  go_enter Try.func3, Try.ntmps3
  go_wp2_with (first | (go_call (two_c _ _ _ _) as e w' ⟨rfl, rfl⟩) | (go_call (reftwo_c _ _ _ _) as e w' ⟨rfl, n, rfl⟩) | (go_call (lives_any _) as e w' ⟨rfl, rfl⟩))
  go_returns
  exact ⟨rfl, Grown.refl _⟩
theorem walk_one (a0 a1 : Int) (w0 : (Lit.int .u16 a0).wf = true) (w1 : (Lit.int .u8 a1).wf = true) (w : World) :
    Calls Try.prog 4 #[.int .u16 a0, .int .u8 a1] w fun e w' => e = .returned (.bool true) ∧ Grown w w' := by
  obtain ⟨h0, h1⟩ := b16 w0
  obtain ⟨g0, g1⟩ := b8 w1
  clear w0 w1
  have hs := s_bd a0 h0 h1
  have e1 : -S a0 % 65536 = -a0 % 65536 := by have := s_mod a0 h0 h1; omega
  have e2 : ((a0 % 256 + 128) % 256 - 128) % 65536 = ((a0 + 128) % 256 - 128) % 65536 := by omega
  go_enter Try.func4, Try.ntmps4
  go_wp2_with (first | (go_call (worth_any _ _) as e w' ⟨rfl, rfl⟩) | (go_call (refworth_any _ _) as e w' ⟨rfl, rfl⟩) | (go_call (neg_any _ _) as e w' ⟨rfl, rfl⟩) | (go_call (word_any _ _) as e w' ⟨rfl, rfl⟩) | (go_call (byte_any _ _) as e w' ⟨rfl, rfl⟩) | (go_call (refofbyte_any _ _) as e w' ⟨rfl, rfl⟩) | (go_call (ofbyte_any _ _) as e w' ⟨rfl, rfl⟩) | (go_call (lives_any _) as e w' ⟨rfl, rfl⟩))
  go_returns
  exact ⟨rfl, Grown.refl _⟩
theorem walk_is (a0 a1 a2 : Int) (w0 : (Lit.int .u8 a0).wf = true) (w1 : (Lit.int .u16 a1).wf = true) (w2 : (Lit.int .u16 a2).wf = true) (w : World) :
    Calls Try.prog 5 #[.int .u8 a0, .int .u16 a1, .int .u16 a2] w fun e w' => e = .returned (.bool true) ∧ Grown w w' := by
  obtain ⟨o0, o1⟩ := b8 w0
  obtain ⟨h0, h1⟩ := b16 w1
  obtain ⟨g0, g1⟩ := b16 w2
  clear w0 w1 w2
  go_enter Try.func5, Try.ntmps5
  go_wp2_with (first | (go_call (is_any _ _ _) as e w' ⟨rfl, rfl⟩) | (go_call (refis_any _ _ _) as e w' ⟨rfl, rfl⟩) | (go_call (lives_any _) as e w' ⟨rfl, rfl⟩))
  go_returns
  exact ⟨rfl, Grown.refl _⟩
end Go.Proofs.Ytcondgdbjkcafaa
