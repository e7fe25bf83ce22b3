import Derived.Test.YtojekhalpedfhaaDn
import Derived.Laws.BytesArg
import Derived.Lib.BytesEntry
set_option linter.unusedVariables false
namespace Go.Proofs.Ytojekhalpedfhaa
open Go.RowKit
/-! Two lists of bytes, whether the same or not; which is the lesser. -/
theorem drop_cons (l : List Int) (k : Nat) (h : k < l.length) : l.drop k = l.getD k 0 :: l.drop (k + 1) := by
  rw [List.drop_eq_getElem_cons h, List.getD_eq_getElem?_getD, List.getElem?_eq_getElem h]; rfl
theorem same_step (l1 l2 : List Int) (k : Nat) (h1 : k < l1.length) (h2 : k < l2.length) (x y : Int) (e1 : l1.getD k 0 = x) (e2 : l2.getD k 0 = y) (h : l1 = l2 ↔ l1.drop k = l2.drop k) :
    (x = y → (l1 = l2 ↔ l1.drop (k + 1) = l2.drop (k + 1))) ∧ (¬ x = y → ¬ l1 = l2) := by
  rw [drop_cons l1 k h1, drop_cons l2 k h2, e1, e2] at h
  refine ⟨fun e => ?_, fun e => ?_⟩
  · subst e; simpa using h
  · rw [h]; intro he; exact e (List.cons.inj he).1
def cmpZ : List Int → List Int → Int
  | [], [] => 0
  | [], _ :: _ => -1
  | _ :: _, [] => 1
  | a :: p, b :: q => if a < b then -1 else if b < a then 1 else cmpZ p q
def lessZ (a b : List Int) : Bool := decide (cmpZ a b < 0)
theorem less_step (l1 l2 : List Int) (k : Nat) (h1 : k < l1.length) (h2 : k < l2.length) (x y : Int) (e1 : l1.getD k 0 = x) (e2 : l2.getD k 0 = y) (h : lessZ l1 l2 = lessZ (l1.drop k) (l2.drop k)) :
    (x = y → lessZ l1 l2 = lessZ (l1.drop (k + 1)) (l2.drop (k + 1))) ∧ (x < y → lessZ l1 l2 = true) ∧ (y < x → lessZ l1 l2 = false) := by
  rw [drop_cons l1 k h1, drop_cons l2 k h2, e1, e2] at h
  refine ⟨fun e => ?_, fun e => ?_, fun e => ?_⟩
  · rw [h, e]; simp [lessZ, cmpZ]
  · rw [h]; simp [lessZ, cmpZ, e]
  · rw [h]; have : ¬ x < y := by omega
    simp [lessZ, cmpZ, e, this]
theorem less_end (l1 l2 : List Int) (k : Nat) (h0 : k ≤ l1.length) (h1 : k ≤ l2.length) (h : l1.length ≤ k ∨ l2.length ≤ k) (h2 : lessZ l1 l2 = lessZ (l1.drop k) (l2.drop k)) : lessZ l1 l2 = decide (l1.length < l2.length) := by
  rw [h2]
  rcases Nat.lt_or_ge k l1.length with a | a
  · have hb : l2.length = k := by omega
    rw [List.drop_of_length_le (l := l2) (by omega), drop_cons l1 k a, decide_eq_false (by omega)]
    simp [lessZ, cmpZ]
  · rw [List.drop_of_length_le (l := l1) a]
    rcases Nat.lt_or_ge k l2.length with b | b
    · rw [drop_cons l2 k b, decide_eq_true (by omega)]; simp [lessZ, cmpZ]
    · rw [List.drop_of_length_le b, decide_eq_false (by omega)]; simp [lessZ, cmpZ]
theorem byte_lt (a b : Int) (a0 : 0 ≤ a) (a1 : a < 256) (b0 : 0 ≤ b) (b1 : b < 256) : (UInt8.ofNat a.toNat < UInt8.ofNat b.toNat) ↔ a < b := by
  rw [UInt8.lt_iff_toNat_lt]; simp; omega
theorem byte_eq (a b : Int) (a0 : 0 ≤ a) (a1 : a < 256) (b0 : 0 ≤ b) (b1 : b < 256) : (UInt8.ofNat a.toNat = UInt8.ofNat b.toNat) ↔ a = b := by
  rw [← UInt8.toNat_inj]; simp; omega
theorem rng_cons {x : Int} {l : List Int} (h : rng (x :: l)) : (0 ≤ x ∧ x < 256) ∧ rng l := ⟨h x (by simp), fun y hy => h y (by simp [hy])⟩
theorem cmp_bytes : ∀ (a b : List Int), rng a → rng b → Lib.compareBytes (Lib.bytesOf a) (Lib.bytesOf b) = cmpZ a b
  | [], [], _, _ => rfl
  | [], _ :: _, _, _ => rfl
  | _ :: _, [], _, _ => rfl
  | x :: a, y :: b, ha, hb => by
    obtain ⟨⟨x0, x1⟩, ha'⟩ := rng_cons ha
    obtain ⟨⟨y0, y1⟩, hb'⟩ := rng_cons hb
    have ih := cmp_bytes a b ha' hb'
    unfold Lib.bytesOf at ih ⊢
    simp only [List.map_cons, Lib.compareBytes, cmpZ, byte_lt x y x0 x1 y0 y1, byte_lt y x y0 y1 x0 x1, ih]
theorem bytes_inj : ∀ (a b : List Int), rng a → rng b → (Lib.bytesOf a = Lib.bytesOf b ↔ a = b)
  | [], [], _, _ => by simp
  | [], _ :: _, _, _ => by simp [Lib.bytesOf]
  | _ :: _, [], _, _ => by simp [Lib.bytesOf]
  | x :: a, y :: b, ha, hb => by
    obtain ⟨⟨x0, x1⟩, ha'⟩ := rng_cons ha
    obtain ⟨⟨y0, y1⟩, hb'⟩ := rng_cons hb
    have ih := bytes_inj a b ha' hb'
    unfold Lib.bytesOf at ih ⊢
    simp only [List.map_cons, List.cons.injEq, byte_eq x y x0 x1 y0 y1, ih]
theorem toList_strOf (l : List Int) : (strOfNums l).toList = Lib.bytesOf l := Lib.strOfNums_toList l
theorem beq_bytes (a b : List Int) (ha : rng a) (hb : rng b) : (Lib.bytesOf a == Lib.bytesOf b) = decide (a = b) := by
  rw [Bool.eq_iff_iff, beq_iff_eq, decide_eq_true_eq, bytes_inj a b ha hb]
/-! What 'string(b)' is; the library's Equal. -/
theorem conv_rd {w : World} {B n : Nat} {A : Option Addr} {l : List Int} (h : Rd w B A n l) (c : Nat) : (convert 22 9 (.slice A n c)).run Try.prog w = .ok (.string (strOfNums l)) w := by
  by_cases h0 : n = 0
  · subst h0
    have := h.zero
    subst this
    rw [run_convert_bytes_string (P := Try.prog) w 22 9 5 _ 0 c Try.underlying22 Try.underlying5 Try.underlying9]
    cases A <;> simp [Conv.bytesToString, loadCells]
    all_goals rfl
  · obtain ⟨b, o, rfl, _, hc⟩ := h.2.2 (by omega)
    exact run_convert_bytes_arg (P := Try.prog) w 22 5 Try.underlying22 Try.underlying5 b o n c l h.1 hc 9 Try.underlying9
theorem equal_any (A1 A2 : Option Addr) (n1 n2 c1 c2 B1 B2 : Nat) (l1 l2 : List Int) (w : World) (h1 : Rd w B1 A1 n1 l1) (h2 : Rd w B2 A2 n2 l2) :
    Calls Try.prog 35 #[.slice A1 n1 c1, .slice A2 n2 c2] w fun e w' => e = .returned (.bool (decide (l1 = l2))) ∧ w = w' := by
  rw [← beq_bytes l1 l2 h1.rg h2.rg, ← toList_strOf, ← toList_strOf]
  have k1 := conv_rd h1 c1
  have k2 := conv_rd h2 c2
  clear h1 h2
  go_enter Try.func35, Try.ntmps35
  go_wp2
  go_ret
  exact ⟨rfl, rfl⟩
theorem prefix_any (A1 A2 : Option Addr) (n1 n2 c1 c2 B1 B2 : Nat) (l1 l2 : List Int) (w : World) (hc : n1 ≤ c1) (h1 : Rd w B1 A1 n1 l1) (h2 : Rd w B2 A2 n2 l2) (hn1 : n1 ≤ 281474976710656) (hn2 : n2 ≤ 281474976710656) :
    Calls Try.prog 36 #[.slice A1 n1 c1, .slice A2 n2 c2] w fun e w' => e = .returned (.bool (decide (l1.take n2 = l2))) ∧ w = w' := by
  by_cases h : n2 ≤ n1
  · have hR : Rd w B1 A1 n2 (l1.take n2) := by
      have := h1.cut (i := 0) (m := n2) (A' := A1) (by omega) (fun hm => by cases A1 <;> simp [Addr.add_zero'])
      simpa using this
    have C := Lib.hid (fun c => equal_any A1 A2 n2 n2 c c2 B1 B2 _ _ w hR h2)
    have h' : (n2 : Int) ≤ n1 := by omega
    clear h1 h2 hR
    go_enter Try.func36, Try.ntmps36
    go_wp2_with ((refine (C.out _).mono ?_); rintro e w' ⟨rfl, rfl⟩)
    go_ret
    exact ⟨rfl, rfl⟩
  · have hne : ¬ l1.take n2 = l2 := by
      intro e
      have := congrArg List.length e
      rw [List.length_take, h1.len, h2.len] at this
      omega
    rw [decide_eq_false hne]
    have h' : ¬ (n2 : Int) ≤ n1 := by omega
    clear h1 h2 hne
    go_enter Try.func36, Try.ntmps36
    go_wp2
    go_ret
    exact ⟨rfl, rfl⟩
theorem bytes_rd {w : World} {B n : Nat} {A : Option Addr} {l : List Int} (h : Rd w B A n l) (c : Nat) : (Extern.Bytes.bytesOf (.slice A n c)).run Try.prog w = .ok ⟨(Lib.bytesOf l).toArray⟩ w := by
  by_cases h0 : n = 0
  · subst h0
    have := h.zero
    subst this
    cases A <;> simp [Extern.Bytes.bytesOf, Extern.Bytes.loadBytes, Lib.bytesOf] <;> rfl
  · obtain ⟨b, o, rfl, _, hc⟩ := h.2.2 (by omega)
    have hl := Lib.run_loadBytesX (P := Try.prog) w l ⟨b, o, none⟩ .empty (fun j x hj => by
      have hjl : j < l.length := (List.getElem?_eq_some_iff.1 hj).1
      rw [Addr.add_lit, hc j (by have := h.1; omega), List.getD_eq_getElem?_getD, hj]
      rfl)
    rw [h.1] at hl
    simp only [Extern.Bytes.bytesOf, hl]
    congr 1
    apply ByteArray.ext
    show (#[] : Array UInt8) ++ (Lib.bytesOf l).toArray = (Lib.bytesOf l).toArray
    simp
theorem run_cmp {w : World} {B1 B2 n1 n2 : Nat} {A1 A2 : Option Addr} {l1 l2 : List Int} (h1 : Rd w B1 A1 n1 l1) (h2 : Rd w B2 A2 n2 l2) (c1 c2 : Nat) :
    (Extern.BytealgCompare.compare #[.slice A1 n1 c1, .slice A2 n2 c2]).run Try.prog w = .ok (.int .i64 (cmpZ l1 l2)) w := by
  change Sem.run Try.prog (do pure (goInt (Extern.BytealgCompare.cmp (← Extern.Bytes.bytesOf (.slice A1 n1 c1)) (← Extern.Bytes.bytesOf (.slice A2 n2 c2))))) w = _
  simp only [Sem.run_bind, Sem.run_pure, bytes_rd h1 c1, bytes_rd h2 c2, Result.andThen]
  rw [Lib.cmp_eq, ← cmp_bytes l1 l2 h1.rg h2.rg]
  rfl
theorem compare_any (A1 A2 : Option Addr) (n1 n2 c1 c2 B1 B2 : Nat) (l1 l2 : List Int) (w : World) (h1 : Rd w B1 A1 n1 l1) (h2 : Rd w B2 A2 n2 l2) :
    Calls Try.prog 37 #[.slice A1 n1 c1, .slice A2 n2 c2] w fun e w' => e = .returned (.int .i64 (cmpZ l1 l2)) ∧ w = w' := by
  have k := run_cmp h1 h2 c1 c2
  clear h1 h2
  go_enter Try.func37, Try.ntmps37
  go_wp2
  rw [run_callFunc_extern Try.func46 (by kernel_rfl) (by kernel_rfl) (by kernel_rfl) (e := Extern.BytealgCompare.compare) (by kernel_rfl), k]
  simp only [Result.andThen]
  rw [Oper.upon_value]
  go_wp2
  go_ret
  exact ⟨rfl, rfl⟩
end Go.Proofs.Ytojekhalpedfhaa
