import Derived.Test.YtolifmpkillglaaGreatDoorId
set_option linter.unusedVariables false
set_option maxRecDepth 100000
namespace Go.Proofs.YtolifmpkillglaaGreatDoor
open Go.RowKit
/-! Errors as values; may Kinds and matches be? -/
def misV (f : Int) (why : ByteArray) : Value := .iface 77 (.agg #[.int .i64 f, .string why])
/-- An error value tells the error c: 0 none, 5 a misfit, 4 the number itself. -/
def EV (v : Value) (c : Int) : Prop := (c = 0 ∧ v = .nilIface) ∨ (c = 5 ∧ ∃ f why, v = misV f why) ∨ (c = 4 ∧ v = .iface 31 (.int .i64 4))
theorem EV.ok : EV .nilIface 0 := .inl ⟨rfl, rfl⟩
theorem EV.mis (f : Int) (why : ByteArray) : EV (.iface 77 (.agg #[.int .i64 f, .string why])) 5 := .inr (.inl ⟨rfl, f, why, rfl⟩)
theorem EV.short : EV (.iface 31 (.int .i64 4)) 4 := .inr (.inr ⟨rfl, rfl⟩)
def chk (k : Nat) (a pool : Int) (M : List Int) : Bool := match k with
  | 11 => byCl a || (pool == 0 && ofNum a)
  | 10 => ofNum a
  | 7 => risN M M.length
  | _ => true
def eOf (b : Bool) : Int := if b then 0 else 5
theorem BX.new (w : World) (r : RI) : BX (w.alloc (.cells #[.int .i64 r.sc.at_, .int .u8 r.sc.op, .int .i64 r.sc.a, .int .u8 r.sc.b, .int .u16 r.sc.n, .int .i64 r.sc.pool, .int .i64 r.sc.jump, .slice r.tA r.tn r.tc, .slice r.mA r.mn r.mc, .int .u16 r.sc.low] 28)) w.heap.size r := Blk.new w _ _
def ChkSaid (k : Nat) (r : RI) (M : List Int) : Prop := ∀ (w : World) (B : Nat), RV woR w B r.mA r.mn M → B ≤ w.heap.size → r.mn ≤ 281474976710656 →
  Calls Tryz.prog 59 #[r.val, .int .u8 k] w fun e w' => ∃ v, e = .returned v ∧ EV v (eOf (chk k r.sc.a r.sc.pool M)) ∧ Below w.heap.size w w'
theorem chk_other (k : Nat) (hk : k < 12) (h7 : k ≠ 7) (h10 : k ≠ 10) (h11 : k ≠ 11) (r : RI) (M : List Int) : ChkSaid k r M := by
  intro w B hr hB hn
  have h : k = 0 ∨ k = 1 ∨ k = 2 ∨ k = 3 ∨ k = 4 ∨ k = 5 ∨ k = 6 ∨ k = 8 ∨ k = 9 := by omega
  clear hr
  unfold RI.val
  rcases h with rfl | rfl | rfl | rfl | rfl | rfl | rfl | rfl | rfl
  all_goals
    go_enter Tryz.func59, Tryz.ntmps59
    go_wp2_with fail
    go_returns
    exact ⟨_, rfl, EV.ok, below_new _ _⟩
theorem chk_10 (r : RI) (M : List Int) : ChkSaid 10 r M := by
  intro w B hr hB hn
  clear hr
  unfold RI.val
  show Calls _ _ _ _ fun e w' => ∃ v, e = .returned v ∧ EV v (eOf (ofNum r.sc.a)) ∧ Below w.heap.size w w'
  have HO := Lib.hid (fun W => ofnum_any r.sc.a W)
  generalize ofNum r.sc.a = ok at HO ⊢
  cases ok
  all_goals
    go_enter Tryz.func59, Tryz.ntmps59
    go_wp2_with ((with_reducible refine (HO.out _).mono ?_); rintro e w1 ⟨rfl, hw⟩; obtain rfl := hw.symm)
    go_returns
    first | exact ⟨_, rfl, EV.ok, below_new _ _⟩ | exact ⟨_, rfl, EV.mis _ _, below_new _ _⟩
theorem chk_11 (r : RI) (M : List Int) : ChkSaid 11 r M := by
  intro w B hr hB hn
  clear hr
  unfold RI.val
  show Calls _ _ _ _ fun e w' => ∃ v, e = .returned v ∧ EV v (eOf (byCl r.sc.a || (r.sc.pool == 0 && ofNum r.sc.a))) ∧ Below w.heap.size w w'
  have HO := Lib.hid (fun W => ofnum_any r.sc.a W)
  have HC := Lib.hid (fun W => bycl_any r.sc.a W)
  generalize ofNum r.sc.a = ok at HO ⊢
  generalize byCl r.sc.a = cl at HC ⊢
  by_cases hp : r.sc.pool = 0
  · have hp1 : (r.sc.pool == 0) = true := by simpa using hp
    have hp2 : (r.sc.pool != 0) = false := by simpa using hp
    rw [hp1]
    clear hp1
    generalize r.sc.pool = pl at hp hp2 ⊢
    subst hp
    cases cl <;> cases ok
    all_goals
      go_enter Tryz.func59, Tryz.ntmps59
      go_wp2_with (first | ((with_reducible refine (HO.out _).mono ?_); rintro e w1 ⟨rfl, hw⟩; obtain rfl := hw.symm) | ((with_reducible refine (HC.out _).mono ?_); rintro e w1 ⟨rfl, hw⟩; obtain rfl := hw.symm))
      go_returns
      first | exact ⟨_, rfl, EV.ok, below_new _ _⟩ | exact ⟨_, rfl, EV.mis _ _, below_new _ _⟩
  · have hp1 : (r.sc.pool == 0) = false := by simpa using hp
    have hp2 : (r.sc.pool != 0) = true := by simpa using hp
    rw [hp1]
    clear hp1 hp
    cases cl
    all_goals
      go_enter Tryz.func59, Tryz.ntmps59
      go_wp2_with (first | ((with_reducible refine (HO.out _).mono ?_); rintro e w1 ⟨rfl, hw⟩; obtain rfl := hw.symm) | ((with_reducible refine (HC.out _).mono ?_); rintro e w1 ⟨rfl, hw⟩; obtain rfl := hw.symm))
      go_returns
      first | exact ⟨_, rfl, EV.ok, below_new _ _⟩ | exact ⟨_, rfl, EV.mis _ _, below_new _ _⟩
theorem risN_le (M : List Int) (k : Nat) (h : risN M k = false) : ∀ n, k ≤ n → risN M n = false := by
  intro n hn
  induction n with
  | zero => obtain rfl : k = 0 := by omega
            exact h
  | succ n ih =>
    by_cases hk : k = n + 1
    · subst hk; exact h
    · unfold risN
      rw [ih (by omega)]
      rfl
set_option maxHeartbeats 2000000 in
theorem chk_7 (r : RI) (M : List Int) : ChkSaid 7 r M := by
  intro w B hr hB hn
  have hl := hr.len
  have hrg := hr.rg
  unfold RI.val
  show Calls _ _ _ _ fun e w' => ∃ v, e = .returned v ∧ EV v (eOf (risN M M.length)) ∧ Below w.heap.size w w'
  have HY := Lib.hid (BX.new w r)
  have HR := Lib.hid (hr.alloc hB (.cells #[.int .i64 r.sc.at_, .int .u8 r.sc.op, .int .i64 r.sc.a, .int .u8 r.sc.b, .int .u16 r.sc.n, .int .i64 r.sc.pool, .int .i64 r.sc.jump, .slice r.tA r.tn r.tc, .slice r.mA r.mn r.mc, .int .u16 r.sc.low] 28))
  have HB := Lib.hid (below_new w (.cells #[.int .i64 r.sc.at_, .int .u8 r.sc.op, .int .i64 r.sc.a, .int .u8 r.sc.b, .int .u16 r.sc.n, .int .i64 r.sc.pool, .int .i64 r.sc.jump, .slice r.tA r.tn r.tc, .slice r.mA r.mn r.mc, .int .u16 r.sc.low] 28))
  clear hr
  generalize hg : risN M M.length = g
  have HG := Lib.hid hg
  clear hg
  rw [hl] at HG
  go_enter Tryz.func59, Tryz.ntmps59
  go_upto_region 11 with (fail)
  generalize w.alloc (.cells #[.int .i64 r.sc.at_, .int .u8 r.sc.op, .int .i64 r.sc.a, .int .u8 r.sc.b, .int .u16 r.sc.n, .int .i64 r.sc.pool, .int .i64 r.sc.jump, .slice r.tA r.tn r.tc, .slice r.mA r.mn r.mc, .int .u16 r.sc.low] 28) = w1 at HY HR HB ⊢
  have y8 : w1.cell? ⟨w.heap.size, 8, none⟩ = some (.slice r.mA r.mn r.mc) := HY.out.cells10 8
  have y0 : w1.cell? ⟨w.heap.size, 0, none⟩ = some (.int .i64 r.sc.at_) := HY.out.cells10 0
  go_wp2_with fail
  go_loopw [35] (fun i wr => ∃ k : Nat, k ≤ r.mn ∧ i = .int .i64 k ∧ risN M k = true ∧ BX wr w.heap.size r ∧ RV woR wr B r.mA r.mn M ∧ Below w.heap.size w wr) (fun i _ => r.mn - (intOf i).toNat)
  case atStart => exact ⟨0, Nat.zero_le _, rfl, rfl, HY.out, HR.out, HB.out⟩
  case round =>
    obtain ⟨k, hk, rfl, hd, Y, R, b0⟩ := hrel
    clear HY HR HB y8 y0
    have y8 : wr.cell? ⟨w.heap.size, 8, none⟩ = some (.slice r.mA r.mn r.mc) := Y.cells10 8
    have y0 : wr.cell? ⟨w.heap.size, 0, none⟩ = some (.int .i64 r.sc.at_) := Y.cells10 0
    have HY := Lib.hid Y
    have HR := Lib.hid R
    have HB := Lib.hid b0
    clear Y R b0
    have i0 : (0 : Int) ≤ (k : Int) := by omega
    have HD := Lib.hid hd
    clear hd
    by_cases hlt : (k : Int) < (r.mn : Int)
    · have hmk := allok_getD hrg k
      obtain ⟨b, o, hA, _, g1⟩ := HR.out.wo1 k (by omega)
      have hRk : risN M (k + 1) = (risN M k && (decide (k = 0) || decide (worth (M.getD (k - 1) 0) < worth (M.getD k 0)))) := rfl
      rw [HD.out, Bool.true_and] at hRk
      have HW1 := Lib.hid (fun W => cworth_any (M.getD k 0) W hmk.1 hmk.2)
      by_cases hz : k = 0
      · subst hz
        have hR1 : risN M 1 = true := hRk
        have HN := Lib.hid hR1
        clear hRk hR1
        generalize M.getD 0 0 = x at g1 hmk HW1
        simp only [Nat.add_zero] at g1
        rw [hA] at y8
        go_wp2_with fail
        go_quiet (fail)
        go_wp2_with fail
        go_roundw
        case rel => exact ⟨1, by omega, by go_num, HN.out, HY.out, HR.out, below_drewN HB.out _⟩
        case measure => simp [intOf]; omega
      · have hmj := allok_getD hrg (k - 1)
        obtain ⟨b2, o2, hA2, _, g2⟩ := HR.out.wo1 (k - 1) (by omega)
        have hbo : b2 = b ∧ o2 = o := by rw [hA] at hA2; cases hA2; exact ⟨rfl, rfl⟩
        obtain ⟨rfl, rfl⟩ := hbo
        clear hA2
        have HW2 := Lib.hid (fun W => cworth_any (M.getD (k - 1) 0) W hmj.1 hmj.2)
        rw [decide_eq_false hz, Bool.false_or] at hRk
        have e1 := worth_rg _ hmk.1 hmk.2
        have e2 := worth_rg _ hmj.1 hmj.2
        have hgt : decide ((k : Int) > 0) = true := by rw [decide_eq_true_eq]; omega
        have hk1 : ((k : Int) - 1) = ((k - 1 : Nat) : Int) := by omega
        have hoff : o2 + (k - 1) < o2 + k := by omega
        generalize worth (M.getD k 0) = z1 at hRk HW1 e1
        generalize worth (M.getD (k - 1) 0) = z2 at hRk HW2 e2
        generalize M.getD k 0 = x at g1 hmk HW1
        generalize M.getD (k - 1) 0 = x2 at g2 hmj HW2
        obtain ⟨j, rfl⟩ : ∃ j, k = j + 1 := ⟨k - 1, by omega⟩
        simp only [Nat.add_sub_cancel] at g2 hoff hk1
        have hgt2 : decide ((0 : Int) < (j : Int) + 1) = true := by rw [decide_eq_true_eq]; omega
        have hgt3 : decide ((j : Int) + 1 > 0) = true := by rw [decide_eq_true_eq]; omega
        have hgt4 : (0 : Int) < (j : Int) + 1 := by omega
        rw [hA] at y8
        by_cases hzz : z2 < z1
        · have hb : decide (z1 ≤ z2) = false := by rw [decide_eq_false_iff_not]; omega
          rw [decide_eq_true hzz] at hRk
          have HN := Lib.hid hRk
          clear hRk hzz
          go_wp2_with fail
          go_quiet (first | (with_reducible exact Calls.quiet_of_same (HW1.out _)) | (with_reducible exact Calls.quiet_of_same (HW2.out _)))
          go_wp2_with fail
          go_roundw
          case rel => exact ⟨j + 1 + 1, by omega, by go_num, HN.out, HY.out, HR.out, below_drewN HB.out _⟩
          case measure => simp [intOf]; omega
        · have hb : decide (z1 ≤ z2) = true := by rw [decide_eq_true_eq]; omega
          rw [decide_eq_false hzz] at hRk
          have HN := Lib.hid (risN_le M _ hRk r.mn (by omega))
          clear hRk hzz
          go_wp2_with fail
          go_quiet (first | (with_reducible exact Calls.quiet_of_same (HW1.out _)) | (with_reducible exact Calls.quiet_of_same (HW2.out _)))
          go_wp2_with fail
          go_returns
          have := HG.out
          rw [HN.out] at this
          subst this
          exact ⟨_, rfl, EV.mis _ _, below_drewN HB.out _⟩
    · obtain rfl : k = r.mn := by omega
      go_wp2_with fail
      go_returns
      have := HG.out
      rw [HD.out] at this
      subst this
      exact ⟨_, rfl, EV.ok, HB.out⟩
theorem chk_any (k : Nat) (hk : k < 12) (r : RI) (M : List Int) : ChkSaid k r M := by
  by_cases h7 : k = 7
  · subst h7; exact chk_7 r M
  · by_cases h10 : k = 10
    · subst h10; exact chk_10 r M
    · by_cases h11 : k = 11
      · subst h11; exact chk_11 r M
      · exact chk_other k hk h7 h10 h11 r M
end Go.Proofs.YtolifmpkillglaaGreatDoor
