import Derived.Test.YtolifmpkillglaaGreatDoorDb
set_option linter.unusedVariables false
set_option maxRecDepth 100000
namespace Go.Proofs.YtolifmpkillglaaGreatDoor
open Go.RowKit
/-! A number's bytes, the highest first. -/
def dig (N : Int) : Nat → List Int
  | 0 => []
  | s + 1 => dig (N / 256) s ++ [N % 256]
theorem dig_len (s : Nat) : ∀ N, (dig N s).length = s := by
  induction s with
  | zero => intro N; rfl
  | succ s ih => intro N; simp [dig, ih]
theorem dig_rng (s : Nat) : ∀ N, rng (dig N s) := by
  induction s with
  | zero => intro N; exact rng_nil
  | succ s ih =>
    intro N
    refine rng_app (ih _) ?_
    intro x hx
    simp at hx
    subst hx
    omega
theorem dig_1 (N : Int) : dig N 1 = [N % 256] := rfl
theorem dig_2 (N : Int) : dig N 2 = [N / 256 % 256, N % 256] := rfl
theorem dig_4 (N : Int) : dig N 4 = [N / 256 / 256 / 256 % 256, N / 256 / 256 % 256, N / 256 % 256, N % 256] := rfl
def topd (N : Int) (s k : Nat) : List Int := (List.range k).map fun j => N / 2 ^ (8 * (s - 1 - j)) % 256
theorem topd_succ (N : Int) (s k : Nat) : topd N s (k + 1) = topd N s k ++ [N / 2 ^ (8 * (s - 1 - k)) % 256] := by simp [topd, List.range_succ]
theorem topd_1 (N : Int) : topd N 1 1 = dig N 1 := by simp [topd, dig_1, List.range_succ]
theorem topd_2 (N : Int) : topd N 2 2 = dig N 2 := by simp [topd, dig_2, List.range_succ]
theorem topd_4 (N : Int) : topd N 4 4 = dig N 4 := by simp [topd, dig_4, List.range_succ]; omega
theorem rd_one (w : World) (x : Int) (t : TypeId) (h0 : 0 ≤ x) (h1 : x < 256) : Rd (w.alloc (.cells #[.int .u8 x] t)) (w.heap.size + 1) (some ⟨w.heap.size, 0, none⟩) 1 [x] := by
  refine ⟨rfl, ?_, fun _ => ⟨w.heap.size, 0, rfl, by omega, fun i hi => ?_⟩⟩
  · intro y hy
    simp at hy
    subst hy
    exact ⟨h0, h1⟩
  · obtain rfl : i = 0 := by omega
    simp
def okN (N : Int) (s : Nat) : Prop := (s = 1 ∧ N ≤ 255) ∨ (s = 2 ∧ N ≤ 65535) ∨ (s = 4 ∧ N ≤ 4294967295)
theorem topd_all (N : Int) (s : Nat) (h : s = 1 ∨ s = 2 ∨ s = 4) : topd N s s = dig N s := by
  rcases h with rfl | rfl | rfl
  · exact topd_1 N
  · exact topd_2 N
  · exact topd_4 N
set_option maxHeartbeats 1000000 in
theorem appnum_any (base : Nat) (A : Option Addr) (n c : Nat) (l : List Int) (N : Int) (s : Nat) (w : World) (hob : OB w base A n c l) (hbase : base ≤ w.heap.size) (hs : s = 1 ∨ s = 2 ∨ s = 4) (hn : n ≤ 70000) (n0 : 0 ≤ N) (n1 : N ≤ 4294967295) :
    Calls Tryz.prog 75 #[.slice A n c, .int .u32 N, .int .i64 s] w fun e w' => ∃ A' c', e = .returned (.slice A' ((n + s : Nat)) c') ∧ OB w' base A' (n + s) c' (l ++ dig N s) ∧ Below base w w' := by
  have s0 : 1 ≤ s := by omega
  have s1 : s ≤ 4 := by omega
  have HT := Lib.hid (topd_all N s hs)
  clear hs
  go_enter Tryz.func75, Tryz.ntmps75
  go_wp2
  go_loopw [0, 7] (fun v i wr => ∃ (k c' : Nat) (A' : Option Addr), k ≤ s ∧ i = .int .i64 (8 * ((s : Int) - 1 - (k : Int))) ∧ v = .slice A' ((n + k : Nat)) c' ∧ OB wr base A' (n + k) c' (l ++ topd N s k) ∧ Below base w wr) (fun _ i _ => (intOf i + 8).toNat)
  case atStart => exact ⟨0, c, A, Nat.zero_le _, by go_num, rfl, by simpa [topd] using hob, Below.refl _ _⟩
  case round =>
    obtain ⟨k, c', A', hk, rfl, rfl, ho, hb⟩ := hrel
    by_cases hlt : k < s
    · have d0 : 0 ≤ (8 : Int) * ((s : Int) - 1 - (k : Int)) := by omega
      have d1 : (8 : Int) * ((s : Int) - 1 - (k : Int)) ≤ 24 := by omega
      have x0 : 0 ≤ N / 2 ^ (8 * (s - 1 - k)) % 256 := by omega
      have x1 : N / 2 ^ (8 * (s - 1 - k)) % 256 < 256 := by omega
      have HX := Lib.hid (topd_succ N s k)
      have hsz := hb.size
      go_wp2_with (at_builtin; refine wpList_app rfl _ _ rfl base A' (n + k) c' (l ++ topd N s k) rfl (ho.below ((Below.refl _ _).alloc (Nat.le_refl _) _)) _ _ 1 1 [N / 2 ^ (8 * (s - 1 - k)) % 256] rfl (rd_one _ _ _ x0 x1) (n + (k + 1)) (by omega) (l ++ topd N s (k + 1)) (by rw [HX.out, List.append_assoc]) (by omega) (by simp; omega) ?_; intro A2 c2 w2 ho2 hb2)
      go_roundw
      case rel => exact ⟨k + 1, c2, A2, by omega, by go_num, rfl, ho2, (hb.alloc (Nat.le_trans hbase hb.size) _).trans hb2⟩
      case measure => simp [intOf]; omega
    · obtain rfl : k = s := by omega
      have d0 : (8 : Int) * ((k : Int) - 1 - (k : Int)) < 0 := by omega
      go_wp2
      go_returns
      exact ⟨A', c', rfl, by rw [← HT.out]; exact ho, hb⟩
theorem put_ok (N : Int) (s : Nat) (w : World) (n0 : 0 ≤ N) (h : okN N s) :
    Calls Tryz.prog 61 #[.int .u32 N, .int .i64 s] w fun e w' => ∃ A c, e = .returned (.tuple #[.slice A s c, .int .i64 0]) ∧ OB w' w.heap.size A s c (dig N s) ∧ Below w.heap.size w w' := by
  have c0 := appnum_any w.heap.size none 0 0 [] N s w OB.nil_ (Nat.le_refl _) (by unfold okN at h; omega) (by omega) n0 (by unfold okN at h; omega)
  simp only [Nat.zero_add, List.nil_append] at c0
  have C0 := Lib.hid c0
  clear c0
  rcases h with ⟨rfl, h1⟩ | ⟨rfl, h1⟩ | ⟨rfl, h1⟩
  all_goals
    have h2 : ¬ N > 4294967295 := by omega
    go_enter Tryz.func61, Tryz.ntmps61
    go_wp2_with (first | ((with_reducible refine (greatest_1 _).mono ?_); rintro e w' ⟨rfl, rfl⟩) | ((with_reducible refine (greatest_2 _).mono ?_); rintro e w' ⟨rfl, rfl⟩) | ((with_reducible refine (greatest_4 _).mono ?_); rintro e w' ⟨rfl, rfl⟩) | ((refine C0.out.mono ?_); rintro e w' ⟨A, c, rfl, ho, hb⟩))
    go_returns
    exact ⟨A, c, rfl, ho, hb⟩
theorem put_no (N s : Int) (w : World) (h : noS s ∨ (s = 1 ∧ 255 < N) ∨ (s = 2 ∧ 65535 < N)) :
    Calls Tryz.prog 61 #[.int .u32 N, .int .i64 s] w fun e w' => e = .returned (.tuple #[.slice none 0 0, .int .i64 2]) ∧ w = w' := by
  rcases h with h | ⟨rfl, h1⟩ | ⟨rfl, h1⟩
  · go_enter Tryz.func61, Tryz.ntmps61
    go_wp2_with ((with_reducible refine (greatest_no _ _ h).mono ?_); rintro e w' ⟨rfl, rfl⟩)
    go_returns
    exact ⟨rfl, rfl⟩
  · go_enter Tryz.func61, Tryz.ntmps61
    go_wp2_with ((with_reducible refine (greatest_1 _).mono ?_); rintro e w' ⟨rfl, rfl⟩)
    go_returns
    exact ⟨rfl, rfl⟩
  · go_enter Tryz.func61, Tryz.ntmps61
    go_wp2_with ((with_reducible refine (greatest_2 _).mono ?_); rintro e w' ⟨rfl, rfl⟩)
    go_returns
    exact ⟨rfl, rfl⟩
/-! The document's Put. -/
theorem lit_ob (w : World) (zs : List Int) (n : Nat) (hn : zs.length = n) (hm : n ≤ maxLen) (hr : rng zs) : OB (w.alloc (.cells (BL zs) 5)) w.heap.size (some ⟨w.heap.size, 0, none⟩) n n zs := by
  have k := OB.row (w := w.alloc (.cells (BL zs) 5)) (base := w.heap.size) (g := w.heap.size) (n := n) (c := n) (Nat.le_refl _) (heap_alloc_new w _) hn (Nat.le_refl _) hm hr
  rwa [List.take_of_length_le (by omega)] at k
theorem mk_1 (w : World) : (Instr.makeSlice 30 (.int .i64 1) (.int .i64 1)).run Tryz.prog w = .ok (.slice (some ⟨w.heap.size, 0, none⟩) 1 1) (w.alloc (.cells #[.int .u8 0] 5)) := by kernel_rfl
theorem mk_2 (w : World) : (Instr.makeSlice 30 (.int .i64 2) (.int .i64 2)).run Tryz.prog w = .ok (.slice (some ⟨w.heap.size, 0, none⟩) 2 2) (w.alloc (.cells #[.int .u8 0, .int .u8 0] 5)) := by kernel_rfl
theorem mk_4 (w : World) : (Instr.makeSlice 30 (.int .i64 4) (.int .i64 4)).run Tryz.prog w = .ok (.slice (some ⟨w.heap.size, 0, none⟩) 4 4) (w.alloc (.cells #[.int .u8 0, .int .u8 0, .int .u8 0, .int .u8 0] 5)) := by kernel_rfl
end Go.Proofs.YtolifmpkillglaaGreatDoor
