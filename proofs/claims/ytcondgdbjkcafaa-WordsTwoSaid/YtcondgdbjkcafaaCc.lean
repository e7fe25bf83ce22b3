import Derived.Test.YtcondgdbjkcafaaCb
set_option linter.unusedVariables false
namespace Go.Proofs.Ytcondgdbjkcafaa
open Go.RowKit
/-! Bits of a word, one by one. -/
def bitOf (x i : Nat) : Nat := x / 2 ^ i % 2
theorem bit_lt (x i : Nat) : bitOf x i < 2 := Nat.mod_lt _ (by decide)
theorem bit_test (x i : Nat) : x.testBit i = decide (bitOf x i = 1) := Nat.testBit_eq_decide_div_mod_eq
theorem low_succ (x i : Nat) : x % 2 ^ (i + 1) = x % 2 ^ i + 2 ^ i * bitOf x i := Nat.mod_pow_succ
theorem bit_and (x y i : Nat) : bitOf (x &&& y) i = if bitOf x i + bitOf y i = 2 then 1 else 0 := by
  have h := Nat.testBit_and x y i
  rw [bit_test, bit_test, bit_test] at h
  have := bit_lt x i; have := bit_lt y i; have := bit_lt (x &&& y) i
  by_cases a : bitOf x i = 1 <;> by_cases b : bitOf y i = 1 <;> simp [a, b] at h <;> split <;> omega
theorem bit_or (x y i : Nat) : bitOf (x ||| y) i = if 0 < bitOf x i + bitOf y i then 1 else 0 := by
  have h := Nat.testBit_or x y i
  rw [bit_test, bit_test, bit_test] at h
  have := bit_lt x i; have := bit_lt y i; have := bit_lt (x ||| y) i
  by_cases a : bitOf x i = 1 <;> by_cases b : bitOf y i = 1 <;> simp [a, b] at h <;> split <;> omega
theorem bit_xor (x y i : Nat) : bitOf (x ^^^ y) i = if bitOf x i + bitOf y i = 1 then 1 else 0 := by
  have h := Nat.testBit_xor x y i
  rw [bit_test, bit_test, bit_test] at h
  have := bit_lt x i; have := bit_lt y i; have := bit_lt (x ^^^ y) i
  by_cases a : bitOf x i = 1 <;> by_cases b : bitOf y i = 1 <;> simp [a, b] at h <;> split <;> omega
/-- The lowest i bits, as a number. -/
def low (x i : Nat) : Int := ((x % 2 ^ i : Nat) : Int)
theorem low_zero (x : Nat) : low x 0 = 0 := by unfold low; simp [Nat.mod_one]
theorem low_set (x i : Nat) (h : bitOf x i = 1) : low x (i + 1) = low x i + pw i := by
  unfold low pw; rw [low_succ, h]; simp
theorem low_not (x i : Nat) (h : bitOf x i = 0) : low x (i + 1) = low x i := by
  unfold low; rw [low_succ, h]; simp
theorem low_bd (x i : Nat) : 0 ≤ low x i ∧ low x i < pw i := by
  unfold low pw
  have : x % 2 ^ i < 2 ^ i := Nat.mod_lt _ (Nat.two_pow_pos i)
  refine ⟨by omega, ?_⟩
  exact_mod_cast this
theorem low_all (x : Nat) (h : x < 65536) : low x 16 = x := by
  unfold low; rw [Nat.mod_eq_of_lt h]
theorem bit_int (x i : Nat) : (x : Int) / pw i % 2 = (bitOf x i : Int) := by
  unfold bitOf pw; push_cast; rfl
theorem div_bd (x i : Nat) (h : (x : Int) < 65536) : wrap64 ((x : Int) / pw i) = (x : Int) / pw i ∧ 0 ≤ (x : Int) / pw i := by
  have h1 := pw_pos i
  have h2 : 0 ≤ (x : Int) / pw i := Int.ediv_nonneg (by omega) (by omega)
  have h3 : (x : Int) / pw i ≤ x := Int.ediv_le_self _ (by omega)
  exact ⟨IntWalk.wrap64_in _ ⟨by omega, by omega⟩, h2⟩
theorem bit_tmod0 (x i : Nat) (h : bitOf x i = 0) : ((x : Int) / pw i).tmod 2 = 0 := by
  have e := bit_int x i
  rw [h] at e
  rw [Int.tmod_eq_emod_of_nonneg (Int.ediv_nonneg (by omega) (by have := pw_pos i; omega)), e]; rfl
theorem bit_tmod1 (x i : Nat) (h : bitOf x i = 1) : ((x : Int) / pw i).tmod 2 = 1 := by
  have e := bit_int x i
  rw [h] at e
  rw [Int.tmod_eq_emod_of_nonneg (Int.ediv_nonneg (by omega) (by have := pw_pos i; omega)), e]; rfl
def TwoQuiet (f : Nat) (op a b : Int) (w : World) : Prop :=
  Calls Try.prog f #[.int .u8 op, .int .u16 a, .int .u16 b] w fun e w' => e = .returned (.tuple #[.int .u16 (tw op a b), .int .u8 (tf op b), .int .i64 (te op)]) ∧ ∃ n, w' = w.drewN n
set_option maxRecDepth 100000 in
set_option maxHeartbeats 2000000 in
theorem reftwo_and (a b : Int) (w : World) (h0 : 0 ≤ a) (h1 : a < 65536) (g0 : 0 ≤ b) (g1 : b < 65536) :
    TwoQuiet 11 9 a b w := by
  obtain ⟨A, rfl⟩ := Int.eq_ofNat_of_zero_le h0
  obtain ⟨B, rfl⟩ := Int.eq_ofNat_of_zero_le g0
  have hX : (A &&& B) < 65536 := Nat.lt_of_le_of_lt Nat.and_le_left (by omega)
  have hall := low_all _ hX
  have HA := Lib.hid hall
  clear hall
  unfold TwoQuiet
  have ha := s_bd A h0 h1
  have hb := s_bd B g0 g1
  obtain ⟨s, hs, hs31⟩ : ∃ s : Nat, (B : Int) % 32 = s ∧ s ≤ 31 := ⟨B % 32, by omega, by omega⟩
  go_enter Try.func11, Try.ntmps11
  go_wp2_with (go_call (refworth_any _ _) as e w' ⟨rfl, rfl⟩)
  go_loop [12, 13] (fun p i => ∃ k : Nat, k ≤ s ∧ i = .int .i64 k ∧ p = .int .i64 (pw k)) (fun _ i => s - (intOf i).toNat)
  case atStart => exact ⟨0, Nat.zero_le _, rfl, rfl⟩
  case round =>
    obtain ⟨k, hk, rfl, rfl⟩ := hrel
    have hp1 := pw_pos k
    have hp2 := pw_le k (by omega)
    by_cases hlt : k < s
    · go_wp2
      go_round
      case rel => exact ⟨k + 1, by omega, by go_num, by rw [pw_succ]⟩
      case measure => simp [intOf]; omega
    · obtain rfl : k = s := by omega
      clear hlt hk
      by_cases hneg : S A < 0
      all_goals
        go_wp2
        go_loopw [17, 18] (fun n i wr => ∃ m q : Nat, m ≤ 16 ∧ i = .int .i64 m ∧ n = .int .i64 (low (A &&& B) m) ∧ wr = w.drewN q) (fun _ i _ => 16 - (intOf i).toNat)
        case atStart => exact ⟨0, 0, Nat.zero_le _, rfl, by rw [low_zero], rfl⟩
        case round =>
          obtain ⟨m, q, hm, rfl, rfl, rfl⟩ := hrel
          have hq1 := pw_pos m
          have hq2 := pw_le16 m hm
          have hl := low_bd (A &&& B) m
          generalize hln : low (A &&& B) m = L at *
          have HL := Lib.hid hln
          clear hln
          by_cases hlm : (m : Int) < 16
          · go_wp2
            go_loop [19, 20] (fun p j => ∃ i : Nat, i ≤ m ∧ j = .int .i64 i ∧ p = .int .i64 (pw i)) (fun _ j => m - (intOf j).toNat)
            case atStart => exact ⟨0, Nat.zero_le _, rfl, rfl⟩
            case round =>
              obtain ⟨i, hi, rfl, rfl⟩ := hrel
              have hr1 := pw_pos i
              have hr2 := pw_le16 i (by omega)
              by_cases hlt : i < m
              · go_wp2
                go_round
                case rel => exact ⟨i + 1, by omega, by go_num, by rw [pw_succ]⟩
                case measure => simp [intOf]; omega
              · obtain rfl : i = m := by omega
                clear hlt hi
                have rA := (div_bd A i h1).1
                have rB := (div_bd B i g1).1
                have bX := bit_and A B i
                rcases (show bitOf A i = 0 ∨ bitOf A i = 1 by have := bit_lt A i; omega) with eA | eA <;> rcases (show bitOf B i = 0 ∨ bitOf B i = 1 by have := bit_lt B i; omega) with eB | eB
                all_goals
                  first | have cA := bit_tmod0 A i eA | have cA := bit_tmod1 A i eA
                  first | have cB := bit_tmod0 B i eB | have cB := bit_tmod1 B i eB
                  rw [eA, eB] at bX
                  have BX := Lib.hid bX
                  clear bX eA eB
                  go_wp2
                  go_quiet (fail)
                  clear rA rB cA cB
                  go_wp2
                  go_roundw
                  case rel => exact ⟨i + 1, q + nq, by omega, by go_num, by first | (rw [low_set _ _ (by rw [BX.out]; rfl), HL.out]) | (rw [low_not _ _ (by rw [BX.out]; rfl), HL.out]), rfl⟩
                  case measure => simp [intOf]; omega
          · have hm16 : m = 16 := by omega
            subst hm16
            have hL : L = ((A &&& B : Nat) : Int) := by rw [← HL.out, HA.out]
            have HLL := Lib.hid hL
            clear hL
            go_wp2
            go_returns
            exact ⟨ret3 (by rw [HLL.out]; rfl) rfl rfl, q, rfl⟩
set_option maxRecDepth 100000 in
set_option maxHeartbeats 2000000 in
theorem reftwo_or (a b : Int) (w : World) (h0 : 0 ≤ a) (h1 : a < 65536) (g0 : 0 ≤ b) (g1 : b < 65536) :
    TwoQuiet 11 10 a b w := by
  obtain ⟨A, rfl⟩ := Int.eq_ofNat_of_zero_le h0
  obtain ⟨B, rfl⟩ := Int.eq_ofNat_of_zero_le g0
  have hX : (A ||| B) < 65536 := Nat.or_lt_two_pow (n := 16) (by omega) (by omega)
  have hall := low_all _ hX
  have HA := Lib.hid hall
  clear hall
  unfold TwoQuiet
  have ha := s_bd A h0 h1
  have hb := s_bd B g0 g1
  obtain ⟨s, hs, hs31⟩ : ∃ s : Nat, (B : Int) % 32 = s ∧ s ≤ 31 := ⟨B % 32, by omega, by omega⟩
  go_enter Try.func11, Try.ntmps11
  go_wp2_with (go_call (refworth_any _ _) as e w' ⟨rfl, rfl⟩)
  go_loop [12, 13] (fun p i => ∃ k : Nat, k ≤ s ∧ i = .int .i64 k ∧ p = .int .i64 (pw k)) (fun _ i => s - (intOf i).toNat)
  case atStart => exact ⟨0, Nat.zero_le _, rfl, rfl⟩
  case round =>
    obtain ⟨k, hk, rfl, rfl⟩ := hrel
    have hp1 := pw_pos k
    have hp2 := pw_le k (by omega)
    by_cases hlt : k < s
    · go_wp2
      go_round
      case rel => exact ⟨k + 1, by omega, by go_num, by rw [pw_succ]⟩
      case measure => simp [intOf]; omega
    · obtain rfl : k = s := by omega
      clear hlt hk
      by_cases hneg : S A < 0
      all_goals
        go_wp2
        go_loopw [17, 18] (fun n i wr => ∃ m q : Nat, m ≤ 16 ∧ i = .int .i64 m ∧ n = .int .i64 (low (A ||| B) m) ∧ wr = w.drewN q) (fun _ i _ => 16 - (intOf i).toNat)
        case atStart => exact ⟨0, 0, Nat.zero_le _, rfl, by rw [low_zero], rfl⟩
        case round =>
          obtain ⟨m, q, hm, rfl, rfl, rfl⟩ := hrel
          have hq1 := pw_pos m
          have hq2 := pw_le16 m hm
          have hl := low_bd (A ||| B) m
          generalize hln : low (A ||| B) m = L at *
          have HL := Lib.hid hln
          clear hln
          by_cases hlm : (m : Int) < 16
          · go_wp2
            go_loop [19, 20] (fun p j => ∃ i : Nat, i ≤ m ∧ j = .int .i64 i ∧ p = .int .i64 (pw i)) (fun _ j => m - (intOf j).toNat)
            case atStart => exact ⟨0, Nat.zero_le _, rfl, rfl⟩
            case round =>
              obtain ⟨i, hi, rfl, rfl⟩ := hrel
              have hr1 := pw_pos i
              have hr2 := pw_le16 i (by omega)
              by_cases hlt : i < m
              · go_wp2
                go_round
                case rel => exact ⟨i + 1, by omega, by go_num, by rw [pw_succ]⟩
                case measure => simp [intOf]; omega
              · obtain rfl : i = m := by omega
                clear hlt hi
                have rA := (div_bd A i h1).1
                have rB := (div_bd B i g1).1
                have bX := bit_or A B i
                rcases (show bitOf A i = 0 ∨ bitOf A i = 1 by have := bit_lt A i; omega) with eA | eA <;> rcases (show bitOf B i = 0 ∨ bitOf B i = 1 by have := bit_lt B i; omega) with eB | eB
                all_goals
                  first | have cA := bit_tmod0 A i eA | have cA := bit_tmod1 A i eA
                  first | have cB := bit_tmod0 B i eB | have cB := bit_tmod1 B i eB
                  rw [eA, eB] at bX
                  have BX := Lib.hid bX
                  clear bX eA eB
                  go_wp2
                  go_quiet (fail)
                  clear rA rB cA cB
                  go_wp2
                  go_roundw
                  case rel => exact ⟨i + 1, q + nq, by omega, by go_num, by first | (rw [low_set _ _ (by rw [BX.out]; rfl), HL.out]) | (rw [low_not _ _ (by rw [BX.out]; rfl), HL.out]), rfl⟩
                  case measure => simp [intOf]; omega
          · have hm16 : m = 16 := by omega
            subst hm16
            have hL : L = ((A ||| B : Nat) : Int) := by rw [← HL.out, HA.out]
            have HLL := Lib.hid hL
            clear hL
            go_wp2
            go_returns
            exact ⟨ret3 (by rw [HLL.out]; rfl) rfl rfl, q, rfl⟩
set_option maxRecDepth 100000 in
set_option maxHeartbeats 2000000 in
theorem reftwo_xor (a b : Int) (w : World) (h0 : 0 ≤ a) (h1 : a < 65536) (g0 : 0 ≤ b) (g1 : b < 65536) :
    TwoQuiet 11 11 a b w := by
  obtain ⟨A, rfl⟩ := Int.eq_ofNat_of_zero_le h0
  obtain ⟨B, rfl⟩ := Int.eq_ofNat_of_zero_le g0
  have hX : (A ^^^ B) < 65536 := Nat.xor_lt_two_pow (n := 16) (by omega) (by omega)
  have hall := low_all _ hX
  have HA := Lib.hid hall
  clear hall
  unfold TwoQuiet
  have ha := s_bd A h0 h1
  have hb := s_bd B g0 g1
  obtain ⟨s, hs, hs31⟩ : ∃ s : Nat, (B : Int) % 32 = s ∧ s ≤ 31 := ⟨B % 32, by omega, by omega⟩
  go_enter Try.func11, Try.ntmps11
  go_wp2_with (go_call (refworth_any _ _) as e w' ⟨rfl, rfl⟩)
  go_loop [12, 13] (fun p i => ∃ k : Nat, k ≤ s ∧ i = .int .i64 k ∧ p = .int .i64 (pw k)) (fun _ i => s - (intOf i).toNat)
  case atStart => exact ⟨0, Nat.zero_le _, rfl, rfl⟩
  case round =>
    obtain ⟨k, hk, rfl, rfl⟩ := hrel
    have hp1 := pw_pos k
    have hp2 := pw_le k (by omega)
    by_cases hlt : k < s
    · go_wp2
      go_round
      case rel => exact ⟨k + 1, by omega, by go_num, by rw [pw_succ]⟩
      case measure => simp [intOf]; omega
    · obtain rfl : k = s := by omega
      clear hlt hk
      by_cases hneg : S A < 0
      all_goals
        go_wp2
        go_loopw [17, 18] (fun n i wr => ∃ m q : Nat, m ≤ 16 ∧ i = .int .i64 m ∧ n = .int .i64 (low (A ^^^ B) m) ∧ wr = w.drewN q) (fun _ i _ => 16 - (intOf i).toNat)
        case atStart => exact ⟨0, 0, Nat.zero_le _, rfl, by rw [low_zero], rfl⟩
        case round =>
          obtain ⟨m, q, hm, rfl, rfl, rfl⟩ := hrel
          have hq1 := pw_pos m
          have hq2 := pw_le16 m hm
          have hl := low_bd (A ^^^ B) m
          generalize hln : low (A ^^^ B) m = L at *
          have HL := Lib.hid hln
          clear hln
          by_cases hlm : (m : Int) < 16
          · go_wp2
            go_loop [19, 20] (fun p j => ∃ i : Nat, i ≤ m ∧ j = .int .i64 i ∧ p = .int .i64 (pw i)) (fun _ j => m - (intOf j).toNat)
            case atStart => exact ⟨0, Nat.zero_le _, rfl, rfl⟩
            case round =>
              obtain ⟨i, hi, rfl, rfl⟩ := hrel
              have hr1 := pw_pos i
              have hr2 := pw_le16 i (by omega)
              by_cases hlt : i < m
              · go_wp2
                go_round
                case rel => exact ⟨i + 1, by omega, by go_num, by rw [pw_succ]⟩
                case measure => simp [intOf]; omega
              · obtain rfl : i = m := by omega
                clear hlt hi
                have rA := (div_bd A i h1).1
                have rB := (div_bd B i g1).1
                have bX := bit_xor A B i
                rcases (show bitOf A i = 0 ∨ bitOf A i = 1 by have := bit_lt A i; omega) with eA | eA <;> rcases (show bitOf B i = 0 ∨ bitOf B i = 1 by have := bit_lt B i; omega) with eB | eB
                all_goals
                  first | have cA := bit_tmod0 A i eA | have cA := bit_tmod1 A i eA
                  first | have cB := bit_tmod0 B i eB | have cB := bit_tmod1 B i eB
                  rw [eA, eB] at bX
                  have BX := Lib.hid bX
                  clear bX eA eB
                  go_wp2
                  go_quiet (fail)
                  clear rA rB cA cB
                  go_wp2
                  go_roundw
                  case rel => exact ⟨i + 1, q + nq, by omega, by go_num, by first | (rw [low_set _ _ (by rw [BX.out]; rfl), HL.out]) | (rw [low_not _ _ (by rw [BX.out]; rfl), HL.out]), rfl⟩
                  case measure => simp [intOf]; omega
          · have hm16 : m = 16 := by omega
            subst hm16
            have hL : L = ((A ^^^ B : Nat) : Int) := by rw [← HL.out, HA.out]
            have HLL := Lib.hid hL
            clear hL
            go_wp2
            go_returns
            exact ⟨ret3 (by rw [HLL.out]; rfl) rfl rfl, q, rfl⟩
end Go.Proofs.Ytcondgdbjkcafaa
