import Derived.Test.YtolifmpkillglaaGreatDoorHg
set_option linter.unusedVariables false
set_option maxRecDepth 100000
namespace Go.Proofs.YtolifmpkillglaaGreatDoor
open Go.RowKit
/-! What stands behind: lookups: two rows that grow by turns, and what they say. -/
/-- Blocks older than m, and the row at A. -/
def Off (A : Option Addr) (m : Nat) : Nat → Prop := fun k => k < m ∨ ∃ a : Addr, A = some a ∧ a.block = k
section
variable {α β : Type} {R : Rec α} {R2 : Rec β} {e e2 : TypeId} {w w' : World} {m n n2 c c2 : Nat} {A A2 A3 : Option Addr} {l : List α} {l2 : List β}
/-- The one row as the other grows. -/
theorem OV.swap (O : OV R e w (Off A2 m) A n c l) (P : OV R2 e2 w' (Off A m) A3 n2 c2 l2) (K : Kp (Off A m) w w') : OV R e w' (Off A3 m) A n c l := by
  have hP := P.out
  obtain ⟨h1, h2, h3, h4, h5⟩ := O
  refine ⟨h1, h2, h3, h4, ?_⟩
  rcases h5 with h0 | ⟨g, zs, rfl, hg, hh, hr⟩
  · exact .inl h0
  · refine .inr ⟨g, zs, rfl, ?_, (K.block g (.inr ⟨_, rfl, rfl⟩)).trans hh, hr⟩
    rintro (h | ⟨a, rfl, ha⟩)
    · exact hg (.inl h)
    · obtain ⟨b, o, sp⟩ := a
      exact (hP b o sp rfl).1 (.inr ⟨_, rfl, ha.symm⟩)
theorem OV.off_lt (O : OV R e w (Off A2 m) A n c l) (hm : m ≤ w.heap.size) : ∀ k, Off A m k → k < w.heap.size := by
  rintro k (h | ⟨a, rfl, rfl⟩)
  · omega
  · obtain ⟨b, o, sp⟩ := a
    exact (O.out b o sp rfl).2
theorem Kp.offLt (k : Kp (Off A m) w w') : Kp (Lt m) w w' := k.mono fun _ h => .inl h
theorem OV.offLt (O : OV R e w (Off A2 m) A n c l) : OV R e w (Lt m) A n c l := O.less fun _ h => .inl h
end
/-- k places of a lookup from place a on: its matches, its jumps, and where the taker then is. -/
def lookL (n : Nat) (l : List Int) (f : Int) : Nat → Nat → Bool → List Int × List Int × Nat × Bool
  | 0, a, s => ([], [], a, s)
  | k + 1, a, s => if s then ([], [], a, s) else
    let r := lookL n l f k (twoA n (twoA n a s) (twoS n a s)) (twoS n (twoA n a s) (twoS n a s))
    (twoV l a s :: r.1, (f + worth (twoV l (twoA n a s) (twoS n a s))) :: r.2.1, r.2.2)
/-- The first k matches rise. -/
def risN (M : List Int) : Nat → Bool
  | 0 => true
  | k + 1 => risN M k && (decide (k = 0) || decide (worth (M.getD (k - 1) 0) < worth (M.getD k 0)))
theorem lookL_rg (n : Nat) (l : List Int) (hr : rng l) (f : Int) : ∀ (k a : Nat) (s : Bool), allok woR (lookL n l f k a s).1
  | 0, _, _ => allok_nil woR
  | k + 1, a, s => by
    unfold lookL
    cases s
    · intro x hx
      rcases List.mem_cons.1 hx with rfl | hx
      · exact twoV_rg l hr a false
      · exact lookL_rg n l hr f k _ _ x hx
    · exact allok_nil woR
theorem getD_mid (M R : List Int) (m : Int) (k : Nat) (h : M.length = k) : (M ++ m :: R).getD k 0 = m := by
  subst h
  simp [List.getD_eq_getElem?_getD]
theorem getD_front (M R : List Int) (k : Nat) (h : k < M.length) : (M ++ R).getD k 0 = M.getD k 0 := by
  simp [List.getD_eq_getElem?_getD, List.getElem?_append, h]
end Go.Proofs.YtolifmpkillglaaGreatDoor
