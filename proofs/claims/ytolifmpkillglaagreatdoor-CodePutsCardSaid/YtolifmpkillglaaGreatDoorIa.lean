import Derived.Test.YtolifmpkillglaaGreatDoorDe
import Derived.Test.YtolifmpkillglaaGreatDoorHc
import Derived.Test.YtolifmpkillglaaGreatDoorHd
set_option linter.unusedVariables false
set_option maxRecDepth 100000
namespace Go.Proofs.YtolifmpkillglaaGreatDoor
open Go.RowKit
/-! The code's tail: bytes that are taken off; words' worths; sizes of what stands behind a number. -/
theorem run_cutl (w : World) (A : Option Addr) (n c s : Nat) (hn : n ≤ c) (h : s ≤ n) : (Instr.slice 30 (.slice A n c) (some (.int .i64 (s : Int))) none none).run Tryz.prog w = .ok (.slice (cutA A c s) (n - s) (c - s)) w := by
  have ht := Tryz.underlying30
  obtain ⟨i0, hi, hz0, hz1, hz2⟩ := info_parts u8_info
  have he : Tryz.prog.elem 30 = 5 := by simp [Program.elem, ht]
  have ht' : Tryz.prog.underlying 30 = some (.slice (Tryz.prog.elem 30)) := by rw [he]; exact ht
  rw [run_slice_l w 30 A n c ht' .i64 (s : Int) (by omega) (by omega), he]
  simp [sizeOf, typeInfo, hi, hz1, sliced, cutA]
theorem Rd.keepb {w w' : World} {B n : Nat} {A : Option Addr} {l : List Int} (h : Rd w B A n l) (hk : ∀ b off, A = some ⟨b, off, none⟩ → b < w.heap.size → w'.heap[b]? = w.heap[b]?) : Rd w' B A n l :=
  ⟨h.1, h.2.1, fun hn => by
    obtain ⟨b, off, e, hb, hc⟩ := h.2.2 hn
    refine ⟨b, off, e, hb, fun i hi => ?_⟩
    rw [World.cell?_of_block (w := w) (hk b off e (World.block_lt_of_cell? w ⟨b, off + 0, none⟩ (hc 0 hn)))]
    exact hc i hi⟩
/-- A tail in block t: the bytes l are left, in a block of the set S, of the instruction at f. -/
def TL (w : World) (t : Nat) (S : Nat → Prop) (l : List Int) (f : Int) : Prop := ∃ A n c B, Blk w t #[.slice A n c, .int .i64 f] 101 ∧ Rd w B A n l ∧ (∀ a, A = some a → S a.block) ∧ n ≤ c ∧ n ≤ 281474976710656 ∧ ¬ S t
section
variable {w w' : World} {t : Nat} {S : Nat → Prop} {l : List Int} {f : Int}
theorem TL.blk (h : TL w t S l f) : t < w.heap.size := by obtain ⟨A, n, c, B, h, _⟩ := h; exact h.lt
theorem TL.rg (h : TL w t S l f) : rng l := by obtain ⟨A, n, c, B, _, h, _⟩ := h; exact h.rg
theorem TL.keep (h : TL w t S l f) (hk : ∀ k, k < w.heap.size → S k ∨ k = t → w'.heap[k]? = w.heap[k]?) : TL w' t S l f := by
  have ht := h.blk
  obtain ⟨A, n, c, B, h1, h2, h3, h4, h5, h6⟩ := h
  exact ⟨A, n, c, B, (hk t ht (.inr rfl)).trans h1, h2.keepb fun b off e hb => hk b hb (.inl (h3 _ e)), h3, h4, h5, h6⟩
theorem TL.below (h : TL w t S l f) (hb : Below w.heap.size w w') : TL w' t S l f := h.keep fun k hk _ => hb.block k hk
theorem TL.kp {S' : Nat → Prop} (h : TL w t S l f) (hb : Kp S' w w') (hS : ∀ k, S k ∨ k = t → S' k) : TL w' t S l f := h.keep fun k _ hk => hb.block k (hS k hk)
theorem TL.other (h : TL w t S l f) (p : Addr) (v : Value) (hp : ¬ S p.block) (hne : p.block ≠ t) : TL (w.setCell p v) t S l f :=
  h.keep fun k _ hk => Below.heap_setCell _ _ _ _ (hk.elim (fun hk e => hp (e ▸ hk)) (fun hk e => hne (e.symm.trans hk)))
theorem TL.drewN (h : TL w t S l f) (k : Nat) : TL (w.drewN k) t S l f := h
theorem TL.st (h : TL w t S l f) : ¬ S t := by obtain ⟨A, n, c, B, _, _, _, _, _, h⟩ := h; exact h
end
theorem take_any (s t : Nat) (S : Nat → Prop) (l : List Int) (f : Int) (w : World) (hs : s = 1 ∨ s = 2) (h : s ≤ l.length) (X : TL w t S l f) :
    Calls Tryz.prog 81 #[.pointer (some ⟨t, 0, none⟩), .int .i64 s] w fun e w' => e = .returned (.int .u32 (num (l.take s))) ∧ TL w' t S (l.drop s) f ∧ Kp (Not1 t) w w' := by
  obtain ⟨A, n, c, B, X, hr, hS, hn, hc, hB⟩ := X
  have hl := hr.len
  have y0 : w.cell? ⟨t, 0, none⟩ = some (.slice A n c) := X.cell 0
  have y1 : w.cell? ⟨t, 1, none⟩ = some (.int .i64 f) := X.cell 1
  have f0 := X.froz 0
  have HG := Lib.hid (fun w (hr : Rd w B A n l) => get_ok A n c B 0 s l w hn hc hr (by omega) (by omega))
  have hcut := fun w => run_cutl w A n c s hn (by omega)
  have HC := Lib.hid (hr.cut (A' := cutA A c s) (i := s) (m := n - s) (by omega) (fun hm => by unfold cutA; rw [if_neg (by omega)]))
  have hdr : (l.drop s).take (n - s) = l.drop s := List.take_of_length_le (by rw [List.length_drop]; omega)
  have HD := Lib.hid hdr
  simp only [List.drop_zero] at HG
  generalize num (l.take s) = x at HG ⊢
  have hcS : ∀ a, cutA A c s = some a → S a.block := by
    intro a ha
    unfold cutA at ha
    split at ha
    · exact hS a ha
    · obtain ⟨a0, h0, rfl⟩ := Option.map_eq_some_iff.1 ha
      have := hS a0 h0
      have e : (a0.add s).block = a0.block := by unfold Addr.add; split <;> rfl
      show S (a0.add s).block
      rw [e]
      exact this
  have HX := Lib.hid X
  have HR := Lib.hid hr
  clear X hr hdr
  go_enter Tryz.func81, Tryz.ntmps81
  go_wp2_with fail
  refine (HG.out _ HR.out).mono ?_
  rintro e w' ⟨rfl, rfl⟩
  go_wp2_with fail
  go_returns
  refine ⟨rfl, ⟨cutA A c s, n - s, c - s, B, ?_, ?_, ?_, by omega, by omega, hB⟩, (Kp.refl _ _).setCell (fun h => h rfl) _⟩
  · have := HX.out.set 0 (.slice (cutA A c s) (n - s) (c - s))
    simpa using this
  · have := HC.out
    rw [HD.out] at this
    exact this.keepb fun b off e _ => Below.heap_setCell _ _ _ _ (fun e2 => hB (by have h3 := hcS _ e; have h4 : b = t := e2; rwa [h4] at h3))
  · exact hcS
theorem num_1 (l : List Int) (h : 1 ≤ l.length) : num (l.take 1) = l.getD 0 0 := by
  have := numh_1 l 0 (by omega)
  simpa using this
theorem num_2h (l : List Int) (h : 2 ≤ l.length) : num (l.take 2) = 256 * l.getD 0 0 + l.getD 1 0 := by
  have := numh_2 l 0 (by omega)
  simpa using this
def wd (l : List Int) (i : Nat) : Int := 256 * l.getD i 0 + l.getD (i + 1) 0
theorem wd_rg (l : List Int) (hr : rng l) (i : Nat) : 0 ≤ wd l i ∧ wd l i < 65536 := by
  have b1 := rng_getD hr i
  have b2 := rng_getD hr (i + 1)
  unfold wd
  omega
theorem takeb_any (t : Nat) (S : Nat → Prop) (l : List Int) (f : Int) (w : World) (h : 1 ≤ l.length) (X : TL w t S l f) :
    Calls Tryz.prog 67 #[.pointer (some ⟨t, 0, none⟩)] w fun e w' => e = .returned (.int .u8 (l.getD 0 0)) ∧ TL w' t S (l.drop 1) f ∧ Kp (Not1 t) w w' := by
  have HT := Lib.hid (take_any 1 t S l f w (.inl rfl) h X)
  have hb := rng_getD X.rg 0
  rw [num_1 l h] at HT
  generalize l.getD 0 0 = x at HT hb ⊢
  have hm : x % 256 = x := Int.emod_eq_of_lt hb.1 hb.2
  clear X
  go_enter Tryz.func67, Tryz.ntmps67
  go_wp2_with fail
  refine HT.out.mono ?_
  rintro e w' ⟨rfl, X1, K1⟩
  have HX := Lib.hid X1
  have HK := Lib.hid K1
  clear X1 K1
  go_wp2_with fail
  go_returns
  exact ⟨rfl, HX.out, HK.out⟩
theorem takew_any (t : Nat) (S : Nat → Prop) (l : List Int) (f : Int) (w : World) (h : 2 ≤ l.length) (X : TL w t S l f) :
    Calls Tryz.prog 68 #[.pointer (some ⟨t, 0, none⟩)] w fun e w' => e = .returned (.int .u16 (wd l 0)) ∧ TL w' t S (l.drop 2) f ∧ Kp (Not1 t) w w' := by
  have HT := Lib.hid (take_any 2 t S l f w (.inr rfl) h X)
  have hb := wd_rg l X.rg 0
  rw [num_2h l h] at HT
  have e : 256 * l.getD 0 0 + l.getD 1 0 = wd l 0 := rfl
  rw [e] at HT
  generalize wd l 0 = x at HT hb ⊢
  have hm : x % 65536 = x := Int.emod_eq_of_lt hb.1 hb.2
  clear X e
  go_enter Tryz.func68, Tryz.ntmps68
  go_wp2_with fail
  refine HT.out.mono ?_
  rintro e w' ⟨rfl, X1, K1⟩
  have HX := Lib.hid X1
  have HK := Lib.hid K1
  clear X1 K1
  go_wp2_with fail
  go_returns
  exact ⟨rfl, HX.out, HK.out⟩
theorem cworth_any (x : Int) (w : World) (h0 : 0 ≤ x) (h1 : x < 65536) : Calls Tryz.prog 73 #[.int .u16 x] w fun e w' => e = .returned (.int .i64 (worth x)) ∧ w' = w := by
  have hw : IntKind.i16.wrap x = worth x := by
    unfold worth IntKind.wrap
    simp only [IntKind.bits, IntKind.signed]
    simp
    split <;> split <;> omega
  have hg := worth_rg x h0 h1
  generalize worth x = y at hw hg ⊢
  go_enter Tryz.func73, Tryz.ntmps73
  go_wp2_with fail
  go_returns
  exact ⟨rfl, rfl⟩
end Go.Proofs.YtolifmpkillglaaGreatDoor
