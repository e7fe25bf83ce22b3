import Derived.Test.YtolifmpkillglaaGreatDoorDa
set_option linter.unusedVariables false
set_option maxRecDepth 100000
namespace Go.Proofs.YtolifmpkillglaaGreatDoor
open Go.RowKit
/-! What is kept: the blocks of a set. -/
structure Kp (S : Nat → Prop) (w w' : World) : Prop where
  os : w'.os = w.os
  tape : w'.tape = w.tape
  output : w'.output = w.output
  size : w.heap.size ≤ w'.heap.size
  block : ∀ k, S k → w'.heap[k]? = w.heap[k]?
def Lt (B : Nat) : Nat → Prop := fun k => k < B
def Also (S : Nat → Prop) (g : Nat) : Nat → Prop := fun k => S k ∨ k = g
section
variable {S S' : Nat → Prop} {a w w' : World} {B : Nat}
theorem Kp.refl (S : Nat → Prop) (w : World) : Kp S w w := ⟨rfl, rfl, rfl, Nat.le_refl _, fun _ _ => rfl⟩
theorem Kp.trans (h : Kp S a w) (k : Kp S w w') : Kp S a w' := ⟨k.os.trans h.os, k.tape.trans h.tape, k.output.trans h.output, Nat.le_trans h.size k.size, fun i hi => (k.block i hi).trans (h.block i hi)⟩
theorem Kp.mono (h : Kp S w w') (hs : ∀ k, S' k → S k) : Kp S' w w' := ⟨h.os, h.tape, h.output, h.size, fun k hk => h.block k (hs k hk)⟩
theorem Kp.of_below (h : Below B w w') (hs : ∀ k, S k → k < B) : Kp S w w' := ⟨h.os, h.tape, h.output, h.size, fun k hk => h.block k (hs k hk)⟩
theorem Kp.below (h : Kp S w w') (hs : ∀ k, k < B → S k) : Below B w w' := ⟨h.os, h.tape, h.output, h.size, fun k hk => h.block k (hs k hk)⟩
theorem Kp.drew (h : Kp S a w) : Kp S a w.drew := ⟨h.os, h.tape, h.output, h.size, h.block⟩
theorem Kp.drewN (h : Kp S a w) (n : Nat) : Kp S a (w.drewN n) := ⟨h.os, h.tape, h.output, h.size, h.block⟩
theorem Kp.alloc (h : Kp S a w) (hS : ∀ k, S k → k < w.heap.size) (o : Obj) : Kp S a (w.alloc o) :=
  h.trans ⟨rfl, rfl, rfl, by simp, fun k hk => Below.heap_alloc _ _ _ (hS k hk)⟩
theorem Kp.setCell (h : Kp S a w) {p : Addr} (hp : ¬ S p.block) (u : Value) : Kp S a (w.setCell p u) :=
  h.trans ⟨rfl, rfl, rfl, by simp [World.setCell], fun k hk => Below.heap_setCell _ _ _ _ (fun e => hp (e ▸ hk))⟩
theorem Kp.cell (h : Kp S w w') {p : Addr} (hp : S p.block) : w'.cell? p = w.cell? p := World.cell?_of_block (w := w) (h.block p.block hp)
theorem Kp.frozen (h : Kp S w w') {p : Addr} (hp : S p.block) : w'.frozen? p = w.frozen? p := World.frozen?_of_block (w := w) (h.block p.block hp)
theorem also_l (g : Nat) (k : Nat) (h : S k) : Also S g k := .inl h
theorem also_r (g : Nat) : Also S g g := .inr rfl
theorem also_lt (hS : ∀ k, S k → k < w.heap.size) (o : Obj) : ∀ k, Also S w.heap.size k → k < (w.alloc o).heap.size := by
  intro k hk
  have h2 : (w.alloc o).heap.size = w.heap.size + 1 := by simp
  rcases hk with h | rfl
  · have := hS k h; omega
  · omega
theorem Kp.lt (h : Kp S' w w') (hS : ∀ k, S k → k < w.heap.size) : ∀ k, S k → k < w'.heap.size := fun k hk => Nat.lt_of_lt_of_le (hS k hk) h.size
theorem lt_lt (w : World) : ∀ k, Lt w.heap.size k → k < w.heap.size := fun _ h => h
end
/-! A block that holds cells. -/
def Blk (w : World) (g : Nat) (cs : Array Value) (t : TypeId) : Prop := w.heap[g]? = some (.cells cs t (0, 0))
theorem Blk.cell {w : World} {g : Nat} {cs : Array Value} {t : TypeId} (h : Blk w g cs t) (j : Nat) : w.cell? ⟨g, j, none⟩ = cs[j]? := cell_of_row w g j cs t (0, 0) h
theorem Blk.froz {w : World} {g : Nat} {cs : Array Value} {t : TypeId} (h : Blk w g cs t) (j : Nat) : w.frozen? ⟨g, j, none⟩ = false := by
  unfold Blk at h
  simp [World.frozen?, h]
theorem Blk.lt {w : World} {g : Nat} {cs : Array Value} {t : TypeId} (h : Blk w g cs t) : g < w.heap.size := lt_heap h
theorem Blk.new (w : World) (cs : Array Value) (t : TypeId) : Blk (w.alloc (.cells cs t)) w.heap.size cs t := heap_alloc_new w _
theorem Blk.below {w w' : World} {g : Nat} {cs : Array Value} {t : TypeId} (h : Blk w g cs t) (hb : Below w.heap.size w w') : Blk w' g cs t := (hb.block g (lt_heap h)).trans h
theorem Blk.kp {S : Nat → Prop} {w w' : World} {g : Nat} {cs : Array Value} {t : TypeId} (h : Blk w g cs t) (hb : Kp S w w') (hg : S g) : Blk w' g cs t := (hb.block g hg).trans h
theorem Blk.alloc {w : World} {g : Nat} {cs : Array Value} {t : TypeId} (h : Blk w g cs t) (o : Obj) : Blk (w.alloc o) g cs t := h.below ((Below.refl _ _).alloc (Nat.le_refl _) o)
theorem Blk.drewN {w : World} {g : Nat} {cs : Array Value} {t : TypeId} (h : Blk w g cs t) (k : Nat) : Blk (w.drewN k) g cs t := h
theorem Blk.set {w : World} {g : Nat} {cs : Array Value} {t : TypeId} (h : Blk w g cs t) (k : Nat) (v : Value) : Blk (w.setCell ⟨g, k, none⟩ v) g (cs.set! k v) t := by
  have := heap_setCell_same w g k cs t v h
  unfold Blk
  rw [this]
  congr 2
theorem Blk.other {w : World} {g : Nat} {cs : Array Value} {t : TypeId} (h : Blk w g cs t) (p : Addr) (v : Value) (hp : g ≠ p.block) : Blk (w.setCell p v) g cs t := (Below.heap_setCell w p v g hp).trans h
theorem Blk.box {w w1 : World} {cs : Array Value} {t : TypeId} (hb : Below (w.alloc (.cells cs t)).heap.size (w.alloc (.cells cs t)) w1) : Blk w1 w.heap.size cs t ∧ w.heap.size < w1.heap.size ∧ Below w.heap.size w w1 := by
  have h := (Blk.new w cs t).below hb
  exact ⟨h, h.lt, ((Below.refl _ _).alloc (Nat.le_refl _) _).trans (hb.mono (by simp))⟩
/-! Rows of records: each record a fixed number of cells. -/
structure Rec (α : Type) where
  enc : α → List Value
  m : Nat
  ok : α → Prop
  d : α
  len : ∀ a, (enc a).length = m
  one : ∀ a, ∀ u ∈ enc a, u.oneCell' = true
  pos : 0 < m
  okd : ok d
section
variable {α : Type} (R : Rec α)
def enL (zs : List α) : List Value := zs.flatMap R.enc
def enA (zs : List α) : Array Value := (enL R zs).toArray
theorem enL_cons (z : α) (zs : List α) : enL R (z :: zs) = R.enc z ++ enL R zs := rfl
theorem enL_app (a b : List α) : enL R (a ++ b) = enL R a ++ enL R b := by simp [enL]
theorem enL_len (zs : List α) : (enL R zs).length = zs.length * R.m := by
  induction zs with
  | nil => simp [enL]
  | cons z zs ih => rw [enL_cons, List.length_append, ih, R.len, List.length_cons, Nat.succ_mul]; omega
theorem enL_take (zs : List α) : ∀ k, (enL R zs).take (k * R.m) = enL R (zs.take k) := by
  induction zs with
  | nil => intro k; simp [enL]
  | cons z zs ih =>
    intro k
    cases k with
    | zero => simp [enL]
    | succ k => rw [enL_cons, List.take_succ_cons, enL_cons, ← ih k, List.take_append, R.len, List.take_of_length_le (by rw [R.len, Nat.succ_mul]; omega)]; congr 2; rw [Nat.succ_mul]; omega
theorem enL_drop (zs : List α) : ∀ k, (enL R zs).drop (k * R.m) = enL R (zs.drop k) := by
  induction zs with
  | nil => intro k; simp [enL]
  | cons z zs ih =>
    intro k
    cases k with
    | zero => simp
    | succ k => rw [enL_cons, List.drop_succ_cons, ← ih k, List.drop_append, R.len, List.drop_of_length_le (by rw [R.len, Nat.succ_mul]; omega), List.nil_append]; congr 1; rw [Nat.succ_mul]; omega
theorem enL_one (zs : List α) : ∀ u ∈ enL R zs, u.oneCell' = true := by
  intro u hu
  obtain ⟨z, _, hz⟩ := List.mem_flatMap.1 hu
  exact R.one z u hz
theorem enL_get (zs : List α) (i j : Nat) (hi : i < zs.length) (hj : j < R.m) : (enL R zs)[i * R.m + j]? = (R.enc (zs.getD i R.d))[j]? := by
  have h1 : (enL R zs)[i * R.m + j]? = ((enL R zs).drop (i * R.m))[j]? := by rw [List.getElem?_drop]
  rw [h1, enL_drop, List.drop_eq_getElem_cons hi, enL_cons, List.getElem?_append_left (by rw [R.len]; exact hj), List.getD_eq_getElem?_getD, List.getElem?_eq_getElem hi]
  rfl
def allok (l : List α) : Prop := ∀ a ∈ l, R.ok a
theorem allok_nil : allok R [] := by intro x h; cases h
variable {R}
theorem allok_app {l m : List α} (h : allok R l) (k : allok R m) : allok R (l ++ m) := by
  intro x hx
  rcases List.mem_append.1 hx with e | e
  · exact h x e
  · exact k x e
theorem allok_take {l : List α} (h : allok R l) (k : Nat) : allok R (l.take k) := fun x hx => h x (List.mem_of_mem_take hx)
theorem allok_drop {l : List α} (h : allok R l) (k : Nat) : allok R (l.drop k) := fun x hx => h x (List.mem_of_mem_drop hx)
theorem allok_getD {l : List α} (h : allok R l) (k : Nat) : R.ok (l.getD k R.d) := by
  by_cases hk : k < l.length
  · rw [List.getD_eq_getElem?_getD, List.getElem?_eq_getElem hk]; exact h _ (List.getElem_mem hk)
  · rw [List.getD_eq_getElem?_getD, List.getElem?_eq_none (by omega)]; exact R.okd
theorem allok_one {a : α} (h : R.ok a) : allok R [a] := by intro x hx; simp at hx; subst hx; exact h
theorem allok_rep (k : Nat) : allok R (List.replicate k R.d) := fun x hx => by obtain ⟨_, rfl⟩ := List.mem_replicate.1 hx; exact R.okd
theorem allok_set {l : List α} (h : allok R l) (k : Nat) {a : α} (ha : R.ok a) : allok R (l.set k a) := by
  intro x hx
  rcases List.mem_or_eq_of_mem_set hx with h1 | rfl
  · exact h x h1
  · exact ha
variable (R)

/-- The n records l stand at A, in blocks below B. -/
def RV (w : World) (B : Nat) (A : Option Addr) (n : Nat) (l : List α) : Prop :=
  l.length = n ∧ allok R l ∧ (0 < n → ∃ b off, A = some ⟨b, off, none⟩ ∧ b < B ∧ ∀ i, i < n → ∀ j, j < R.m → w.cell? ⟨b, off + (i * R.m + j), none⟩ = (R.enc (l.getD i R.d))[j]?)
variable {R}
section
variable {w w' : World} {B B' n : Nat} {A : Option Addr} {l : List α}
theorem RV.len (h : RV R w B A n l) : l.length = n := h.1
theorem RV.rg (h : RV R w B A n l) : allok R l := h.2.1
theorem RV.keep (h : RV R w B A n l) (hk : ∀ p : Addr, p.block < B → w'.cell? p = w.cell? p) : RV R w' B A n l :=
  ⟨h.1, h.2.1, fun hn => by
    obtain ⟨b, off, e, hb, hc⟩ := h.2.2 hn
    exact ⟨b, off, e, hb, fun i hi j hj => (hk _ hb).trans (hc i hi j hj)⟩⟩
theorem RV.more (h : RV R w B A n l) (hB : B ≤ B') : RV R w B' A n l :=
  ⟨h.1, h.2.1, fun hn => by
    obtain ⟨b, off, e, hb, hc⟩ := h.2.2 hn
    exact ⟨b, off, e, by omega, hc⟩⟩
theorem RV.below (h : RV R w B A n l) (hb : Below B' w w') (hB : B ≤ B') : RV R w' B A n l := h.keep fun p hp => hb.cell (by omega)
theorem RV.drewN (h : RV R w B A n l) (k : Nat) : RV R (w.drewN k) B A n l := h
theorem RV.none_ : RV R w B none 0 [] := ⟨rfl, allok_nil R, fun h => absurd h (by omega)⟩
theorem RV.zero (h : RV R w B A 0 l) : l = [] := List.eq_nil_of_length_eq_zero h.1
theorem RV.empty : RV R w B A 0 [] := ⟨rfl, allok_nil R, fun h => absurd h (by omega)⟩
theorem RV.kp {S : Nat → Prop} (h : RV R w B A n l) (hb : Kp S w w') (hS : ∀ k, k < B → S k) : RV R w' B A n l := h.below (hb.below hS) (Nat.le_refl _)
theorem RV.alloc (h : RV R w B A n l) (hB : B ≤ w.heap.size) (o : Obj) : RV R (w.alloc o) B A n l := h.below ((Below.refl _ _).alloc (Nat.le_refl _) o) hB
end
variable (R)
/-- The n records l, in a row outside of the set S, c records in all. -/
def OV (e : TypeId) (w : World) (S : Nat → Prop) (A : Option Addr) (n c : Nat) (l : List α) : Prop :=
  l.length = n ∧ allok R l ∧ n ≤ c ∧ c ≤ maxLen ∧
  ((A = none ∧ n = 0 ∧ c = 0) ∨ ∃ g zs, A = some ⟨g, 0, none⟩ ∧ ¬ S g ∧ w.heap[g]? = some (.cells (enA R zs) e (0, 0)) ∧ zs.length = c ∧ zs.take n = l ∧ allok R zs)
variable {R}
theorem enA_cell {w : World} {g : Nat} {zs : List α} {t : TypeId} (h : w.heap[g]? = some (.cells (enA R zs) t (0, 0))) (i : Nat) (hi : i < zs.length) (j : Nat) (hj : j < R.m) : w.cell? ⟨g, i * R.m + j, none⟩ = (R.enc (zs.getD i R.d))[j]? := by
  rw [cell_of_row w g _ _ t (0, 0) h, ← enL_get R zs i j hi hj]
  simp [enA]
section
variable {e : TypeId} {w w' : World} {S S' : Nat → Prop} {B n c : Nat} {A : Option Addr} {l : List α}
theorem OV.len (h : OV R e w S A n c l) : l.length = n := h.1
theorem OV.rg (h : OV R e w S A n c l) : allok R l := h.2.1
theorem OV.le (h : OV R e w S A n c l) : n ≤ c := h.2.2.1
theorem OV.out (h : OV R e w S A n c l) : ∀ g off sp, A = some ⟨g, off, sp⟩ → ¬ S g ∧ g < w.heap.size := by
  intro g off sp hA
  rcases h.2.2.2.2 with ⟨rfl, _⟩ | ⟨g', zs, rfl, hg, hh, _⟩
  · cases hA
  · cases hA; exact ⟨hg, lt_heap hh⟩
theorem OV.rv (h : OV R e w S A n c l) : RV R w w.heap.size A n l := by
  obtain ⟨h1, h2, h3, h4, h5⟩ := h
  refine ⟨h1, h2, fun hn => ?_⟩
  rcases h5 with ⟨_, h0, _⟩ | ⟨g, zs, rfl, hg, hh, hz, ht, hr⟩
  · omega
  · refine ⟨g, 0, rfl, lt_heap hh, fun i hi j hj => ?_⟩
    rw [Nat.zero_add, enA_cell hh i (by omega) j hj, ← ht]
    congr 2
    rw [List.getD_eq_getElem?_getD, List.getD_eq_getElem?_getD, List.getElem?_take, if_pos hi]
theorem OV.keep (h : OV R e w S A n c l) (hk : ∀ g, ¬ S g → g < w.heap.size → (∀ a, A = some a → a.block = g) → w'.heap[g]? = w.heap[g]?) : OV R e w' S A n c l := by
  obtain ⟨h1, h2, h3, h4, h5⟩ := h
  refine ⟨h1, h2, h3, h4, ?_⟩
  rcases h5 with h0 | ⟨g, zs, rfl, hg, hh, hz, ht, hr⟩
  · exact .inl h0
  · exact .inr ⟨g, zs, rfl, hg, (hk g hg (lt_heap hh) (fun a ha => by cases ha; rfl)).trans hh, hz, ht, hr⟩
theorem OV.below (h : OV R e w S A n c l) (hb : Below w.heap.size w w') : OV R e w' S A n c l := h.keep fun g _ hg _ => hb.block g hg
theorem OV.drewN (h : OV R e w S A n c l) (k : Nat) : OV R e (w.drewN k) S A n c l := h
theorem OV.alloc (h : OV R e w S A n c l) (o : Obj) : OV R e (w.alloc o) S A n c l := h.below ((Below.refl _ _).alloc (Nat.le_refl _) o)
theorem OV.set (h : OV R e w S A n c l) {p : Addr} (hp : S p.block) (u : Value) : OV R e (w.setCell p u) S A n c l :=
  h.keep fun g hg _ _ => Below.heap_setCell _ _ _ _ (fun he => hg (he ▸ hp))
theorem OV.less (h : OV R e w S A n c l) (hs : ∀ k, S' k → S k) : OV R e w S' A n c l := by
  obtain ⟨h1, h2, h3, h4, h5⟩ := h
  refine ⟨h1, h2, h3, h4, ?_⟩
  rcases h5 with h0 | ⟨g, zs, rfl, hg, hh⟩
  · exact .inl h0
  · exact .inr ⟨g, zs, rfl, fun hk => hg (hs g hk), hh⟩
/-- A block that is none of the row's may be protected, too. -/
theorem OV.more (h : OV R e w S A n c l) (hs : ∀ k, S' k → S k ∨ w.heap.size ≤ k) : OV R e w S' A n c l := by
  obtain ⟨h1, h2, h3, h4, h5⟩ := h
  refine ⟨h1, h2, h3, h4, ?_⟩
  rcases h5 with h0 | ⟨g, zs, rfl, hg, hh, hr⟩
  · exact .inl h0
  · exact .inr ⟨g, zs, rfl, fun hk => by
      rcases hs g hk with h1 | h1
      · exact hg h1
      · exact absurd (lt_heap hh) (by omega), hh, hr⟩
theorem OV.also (h : OV R e w S A n c l) (o : Obj) : OV R e (w.alloc o) (Also S w.heap.size) A n c l :=
  (h.more (S' := Also S w.heap.size) (by rintro k (h | rfl); exact .inl h; exact .inr (Nat.le_refl _))).alloc o
theorem OV.nil_ : OV R e w S none 0 0 [] := ⟨rfl, allok_nil R, Nat.le_refl _, Nat.zero_le _, .inl ⟨rfl, rfl, rfl⟩⟩
theorem OV.row {g : Nat} {zs : List α} (hg : ¬ S g) (hh : w.heap[g]? = some (.cells (enA R zs) e (0, 0))) (hz : zs.length = c) (hn : n ≤ c) (hm : c ≤ maxLen) (hr : allok R zs) : OV R e w S (some ⟨g, 0, none⟩) n c (zs.take n) :=
  ⟨by rw [List.length_take]; omega, allok_take hr _, hn, hm, .inr ⟨g, zs, rfl, hg, hh, hz, rfl, hr⟩⟩
end
/-- A block that was just made: it holds zs. -/
theorem OV.fresh (w : World) (e : TypeId) (S : Nat → Prop) (hS : ¬ S w.heap.size) (zs : List α) (n : Nat) (hn : zs.length = n) (hm : n ≤ maxLen) (hr : allok R zs) : OV R e (w.alloc (.cells (enA R zs) e)) S (some ⟨w.heap.size, 0, none⟩) n n zs := by
  have k := OV.row (R := R) (e := e) (w := w.alloc (.cells (enA R zs) e)) (S := S) (g := w.heap.size) (n := n) (c := n) hS (heap_alloc_new w _) hn (Nat.le_refl _) hm hr
  rwa [List.take_of_length_le (by omega)] at k

/-! append. -/
theorem RV.news {w : World} {B n b off : Nat} {l : List α} (hl : l.length = n) (hc : ∀ i, i < n → ∀ j, j < R.m → w.cell? ⟨b, off + (i * R.m + j), none⟩ = (R.enc (l.getD i R.d))[j]?) :
    ∀ j u, (enL R l)[j]? = some u → w.cell? ((⟨b, off, none⟩ : Addr).add j) = some u := by
  intro j u hu
  have hp := R.pos
  have hlt : j < n * R.m := by
    have := (List.getElem?_eq_some_iff.1 hu).1
    rwa [enL_len, hl] at this
  have h1 : j / R.m < n := (Nat.div_lt_iff_lt_mul hp).2 hlt
  have h2 : j % R.m < R.m := Nat.mod_lt _ hp
  have h3 : j / R.m * R.m + j % R.m = j := by rw [Nat.mul_comm]; exact Nat.div_add_mod _ _
  have := hc _ h1 _ h2
  rw [Addr.add_lit, ← hu, ← h3, this, enL_get R l _ _ (by omega) h2]
theorem zero_cells (z : Value) (k : Nat) (h : z.cells = (R.enc R.d).toArray) : Builtin.zeroCells z.cells k = enA R (List.replicate k R.d) := by
  rw [h]
  apply Array.ext'
  apply List.ext_getElem?
  intro j
  have hp := R.pos
  have hlen : (enL R (List.replicate k R.d)).length = k * R.m := by rw [enL_len, List.length_replicate]
  by_cases hj : j < k * R.m
  · have h1 : j / R.m < k := (Nat.div_lt_iff_lt_mul hp).2 hj
    have h2 : j % R.m < R.m := Nat.mod_lt _ hp
    have h3 : j / R.m * R.m + j % R.m = j := by rw [Nat.mul_comm]; exact Nat.div_add_mod _ _
    have h4 := enL_get R (List.replicate k R.d) (j / R.m) (j % R.m) (by rw [List.length_replicate]; exact h1) h2
    rw [h3] at h4
    show _ = (enL R (List.replicate k R.d))[j]?
    rw [h4, List.getD_eq_getElem?_getD, List.getElem?_replicate, if_pos h1]
    simp only [Option.getD_some]
    simp only [Builtin.zeroCells, List.size_toArray, R.len, Array.toList_map, Array.toList_range, List.getElem?_map, List.getElem?_range hj, Option.map_some]
    rw [List.getElem?_eq_getElem (by rw [R.len]; exact h2)]
    simp [R.len, h2]
  · rw [List.getElem?_eq_none (by simp [Builtin.zeroCells, R.len]; omega)]
    show none = (enL R (List.replicate k R.d))[j]?
    rw [List.getElem?_eq_none (by omega)]
/-- What a row's type must be. -/
structure Fit (P : Program) (R : Rec α) (t e : TypeId) (by_ : Nat) : Prop where
  under : P.underlying t = some (.slice e)
  info : ∃ i z, P.info? e = some i ∧ i.zero = some z ∧ i.size = R.m ∧ i.bytes = by_ ∧ z.cells = (R.enc R.d).toArray
  bpos : 0 < by_
theorem fit_of {P : Program} {t e : TypeId} {z : Value} {m by_ : Nat} (under : P.underlying t = some (.slice e)) (h : (P.info? e).map (fun i => (i.zero, i.size, i.bytes)) = some (some z, m, by_)) (hm : m = R.m) (hz : z.cells = (R.enc R.d).toArray) (hb : 0 < by_) : Fit P R t e by_ := by
  obtain ⟨i0, hi, hz0, hz1, hz2⟩ := info_parts h
  exact ⟨under, ⟨i0, z, hi, hz0, hz1.trans hm, hz2, hz⟩, hb⟩
theorem run_appV {P : Program} {t e : TypeId} {by_ : Nat} (F : Fit P R t e by_) (w : World) (ty : TypeId) (S : Nat → Prop) (A : Option Addr) (n c : Nat) (l : List α) (h : OV R e w S A n c l) (B : Nat) (A2 : Option Addr) (m c2 : Nat) (l2 : List α) (hr : RV R w B A2 m l2)
    (hsz : (n + m) * by_ ≤ 140737488355328) (hS : ∀ k, S k → k < w.heap.size) :
    ∃ A' c' w', (Builtin.append_ #[t, t] ty #[.slice A n c, .slice A2 m c2]).run P w = .ok (.slice A' (n + m) c') w' ∧ OV R e w' S A' (n + m) c' (l ++ l2) ∧ Kp S w w' := by
  obtain ⟨ht, ⟨i0, z, hi, hz0, hz1, hz2, hzc⟩, hbp⟩ := F
  have hp := R.pos
  have hnS : ¬ S w.heap.size := fun h => absurd (hS _ h) (by omega)
  obtain ⟨h1, h2, h3, h4, h5⟩ := h
  have hnm : n + m ≤ (n + m) * by_ := Nat.le_mul_of_pos_right _ hbp
  have hml : n + m ≤ maxLen := by unfold maxLen; omega
  have hll : (l ++ l2).length = n + m := by rw [List.length_append, h1, hr.1]
  have hrg := allok_app h2 hr.2.1
  by_cases hm0 : m = 0
  · subst hm0
    have he := hr.zero
    subst he
    refine ⟨A, c, w, ?_, by simpa using ⟨h1, h2, h3, h4, h5⟩, Kp.refl _ _⟩
    rcases h5 with ⟨rfl, rfl, rfl⟩ | ⟨g, zs, rfl, hg, hh, hz, htk, hrz⟩
    · cases A2 <;> simp [Builtin.append_, run_underlying ht, sizeOf, typeInfo, hi, Builtin.lenOf, Builtin.firstCells, loadCells, loadCellsFrom]
    · cases A2 <;> simp [Builtin.append_, run_underlying ht, sizeOf, typeInfo, hi, Builtin.lenOf, Builtin.firstCells, h3, storeCells, loadCells, loadCellsFrom]
  · obtain ⟨b2, off2, rfl, hb2, hc2⟩ := hr.2.2 (by omega)
    have hnews := RV.news (B := B) hr.1 hc2
    have hl2 : (enL R l2).length = m * i0.size := by rw [enL_len, hr.1, hz1]
    have hge := fun old => grownCap_ge w (n + m) old e
    have hcm := fun old => grownCap_le_maxLen w (n + m) old e hml
    have grown : ∀ old, OV R e (w.drew.alloc (.cells ((enL R l).toArray ++ (enL R l2).toArray ++ Builtin.zeroCells z.cells (grownCap w (n + m) old e - (n + m))) e)) S
        (some ⟨w.heap.size, 0, none⟩) (n + m) (grownCap w (n + m) old e) (l ++ l2) := by
      intro old
      have e1 : ((enL R l).toArray ++ (enL R l2).toArray ++ Builtin.zeroCells z.cells (grownCap w (n + m) old e - (n + m))) = enA R ((l ++ l2) ++ List.replicate (grownCap w (n + m) old e - (n + m)) R.d) := by
        rw [zero_cells z _ hzc]; simp [enA, enL_app]
      rw [e1]
      have := hge old
      have k := OV.row (R := R) (e := e) (w := w.drew.alloc (.cells (enA R ((l ++ l2) ++ List.replicate (grownCap w (n + m) old e - (n + m)) R.d)) e)) (S := S) (g := w.heap.size) (n := n + m) (c := grownCap w (n + m) old e)
        hnS (heap_alloc_new w.drew _) (by rw [List.length_append, hll, List.length_replicate]; omega) this (hcm old)
        (allok_app hrg (allok_rep _))
      rwa [← hll, List.take_left, hll] at k
    have hbl : ∀ o, Kp S w (w.drew.alloc o) := fun o => ((Kp.refl _ _).drew).alloc hS o
    have hby : (n + m) * i0.bytes ≤ 140737488355328 := by rw [hz2]; exact hsz
    have hmb : m * i0.bytes ≤ (n + m) * i0.bytes := Nat.mul_le_mul_right _ (by omega)
    rcases h5 with ⟨rfl, rfl, rfl⟩ | ⟨g, zs, rfl, hg, hh, hz, htk, hrz⟩
    · have hl0 : l = [] := List.eq_nil_of_length_eq_zero h1
      subst hl0
      have hr' := run_append_nil (P := P) w t ty e i0 _ ht hi hz0 ⟨b2, off2, none⟩ m c2 _ hl2 hnews (by omega) (by omega) (by omega)
      have hg' := grown 0
      have e0 : (enL R ([] : List α)).toArray = #[] := rfl
      simp only [Nat.zero_add, List.nil_append, e0, Array.empty_append] at hr' hg' ⊢
      exact ⟨_, _, _, hr', hg', hbl _⟩
    · have hcur : (enA R zs).size = c * R.m := by simp [enA, enL_len, hz]
      by_cases hroom : n + m ≤ c
      · have hfit : n * i0.size + (enL R l2).length ≤ (enA R zs).size := by
          rw [hl2, hz1, hcur, ← Nat.add_mul]; exact Nat.mul_le_mul_right _ hroom
        have hr' := run_append_room (P := P) w t ty e i0 ht hi g n c (enA R zs) hh ⟨b2, off2, none⟩ m c2 _ hl2 hnews (enL_one R l2) hroom hfit
        have e1 : ((enA R zs).toList.take (n * i0.size) ++ enL R l2 ++ (enA R zs).toList.drop (n * i0.size + (enL R l2).length)).toArray = enA R (l ++ l2 ++ zs.drop (n + m)) := by
          rw [hl2, hz1, ← Nat.add_mul, ← htk]
          show ((enL R zs).take (n * R.m) ++ enL R l2 ++ (enL R zs).drop ((n + m) * R.m)).toArray = _
          rw [enL_take, enL_drop]
          simp [enA, enL_app]
        rw [e1] at hr'
        refine ⟨_, _, _, hr', ?_, ?_⟩
        · have k := OV.row (R := R) (e := e) (w := w.setRow g (enA R (l ++ l2 ++ zs.drop (n + m)))) (S := S) (g := g) (n := n + m) (c := c) hg (setRow_heap w g (enA R zs) _ e _ hh)
            (by rw [List.length_append, hll, List.length_drop]; omega) hroom h4 (allok_app hrg (allok_drop hrz _))
          rwa [← hll, List.take_left, hll] at k
        · exact ⟨rfl, rfl, rfl, by simp, fun k hk => setRow_other w g k _ (fun he => hg (he ▸ hk))⟩
      · have holds : ∀ j u, (enL R l)[j]? = some u → w.cell? ((⟨g, 0, none⟩ : Addr).add j) = some u := by
          refine RV.news (B := w.heap.size) (off := 0) h1 (fun i hi j hj => ?_)
          rw [Nat.zero_add, enA_cell hh i (by omega) j hj, ← htk]
          congr 2
          rw [List.getD_eq_getElem?_getD, List.getD_eq_getElem?_getD, List.getElem?_take, if_pos hi]
        have hr' := run_append_grow (P := P) w t ty e i0 _ ht hi hz0 ⟨g, 0, none⟩ n c (enL R l) (by rw [enL_len, h1, hz1]) holds ⟨b2, off2, none⟩ m c2 _ hl2 hnews
          (by omega) (by omega) (growslice_fits (by omega) hby)
        exact ⟨_, _, _, hr', grown c, hbl _⟩
theorem wpList_appV {P : Program} {t e : TypeId} {by_ : Nat} (F : Fit P R t e by_) {w : World} {ops : Array Oper} {rest : List Oper} {o : Oper} {a : Act} {Q : Exit → Act → World → Prop} (hgd : o.guard = none) (s x : Operand)
    (ho : o.op = .call { callee := .builtin .append, args := #[s, x], argTypes := #[t, t] })
    (S : Nat → Prop) (A : Option Addr) (n c : Nat) (l : List α) (hs : a.eval s = .slice A n c) (h : OV R e w S A n c l) (B : Nat) (A2 : Option Addr) (m c2 : Nat) (l2 : List α) (hx : a.eval x = .slice A2 m c2) (hr : RV R w B A2 m l2)
    (N : Nat) (hN : N = n + m) (L : List α) (hL : L = l ++ l2) (hsz : (n + m) * by_ ≤ 140737488355328) (hS : ∀ k, S k → k < w.heap.size)
    (hK : ∀ A' c' w', OV R e w' S A' N c' L → Kp S w w' → wpList P ops Q rest (a.put o.dst (.slice A' N c')) w') : wpList P ops Q (o :: rest) a w := by
  refine wpList_plain hgd fun K hK' => ?_
  subst hN
  subst hL
  obtain ⟨A', c', w', hrun, h2, h3⟩ := run_appV F w o.type S A n c l h B A2 m c2 l2 hr hsz hS
  unfold Oper.wp execOp
  simp only [ho, resolve, invoke, builtin, Sem.run_bind, Sem.run_pure, Result.andThen_ok, List.map_toArray, List.map_cons, List.map_nil, hs, hx, hrun]
  exact hK' _ _ (hK A' c' w' h2 h3)
end
/-! Bytes are such records. -/
def byR : Rec Int where
  enc x := [.int .u8 x]
  m := 1
  ok x := 0 ≤ x ∧ x < 256
  d := 0
  len _ := rfl
  one _ u hu := by simp at hu; subst hu; rfl
  pos := by decide
  okd := ⟨by decide, by decide⟩
theorem byFit : Fit Tryz.prog byR 30 5 1 := fit_of (z := .int .u8 0) Tryz.underlying30 (m := 1) u8_info rfl rfl (by decide)
theorem enA_by (zs : List Int) : enA byR zs = BL zs := by
  show (zs.flatMap fun x => [Value.int .u8 x]).toArray = _
  unfold BL
  congr 1
  induction zs with
  | nil => rfl
  | cons z zs ih => simp [ih]
theorem Rd.rv {w : World} {B n : Nat} {A : Option Addr} {l : List Int} (h : Rd w B A n l) : RV byR w B A n l :=
  ⟨h.1, h.2.1, fun hn => by
    obtain ⟨b, off, e, hb, hc⟩ := h.2.2 hn
    refine ⟨b, off, e, hb, fun i hi j hj => ?_⟩
    obtain rfl : j = 0 := by have : j < 1 := hj; omega
    have := hc i hi
    simpa [byR] using this⟩
theorem RV.rd {w : World} {B n : Nat} {A : Option Addr} {l : List Int} (h : RV byR w B A n l) : Rd w B A n l :=
  ⟨h.1, h.2.1, fun hn => by
    obtain ⟨b, off, e, hb, hc⟩ := h.2.2 hn
    refine ⟨b, off, e, hb, fun i hi => ?_⟩
    have := hc i hi 0 (by decide)
    simpa [byR] using this⟩
/-- The n bytes l, in a row outside of the set S, c bytes in all. -/
def OS (w : World) (S : Nat → Prop) (A : Option Addr) (n c : Nat) (l : List Int) : Prop := OV byR 5 w S A n c l
section
variable {w w' : World} {S S' : Nat → Prop} {base n c : Nat} {A : Option Addr} {l : List Int}
theorem OB.os (h : OB w base A n c l) (hS : ∀ k, S k → k < base) : OS w S A n c l := by
  obtain ⟨h1, h2, h3, h4, h5⟩ := h
  refine ⟨h1, h2, h3, h4, ?_⟩
  rcases h5 with h0 | ⟨g, zs, rfl, hg, hh, hr⟩
  · exact .inl h0
  · exact .inr ⟨g, zs, rfl, fun hk => absurd (hS g hk) (by omega), by rw [enA_by]; exact hh, hr⟩
theorem OS.ob (h : OS w S A n c l) (hS : ∀ k, k < base → S k) : OB w base A n c l := by
  obtain ⟨h1, h2, h3, h4, h5⟩ := h
  refine ⟨h1, h2, h3, h4, ?_⟩
  rcases h5 with h0 | ⟨g, zs, rfl, hg, hh, hr⟩
  · exact .inl h0
  · refine .inr ⟨g, zs, rfl, ?_, by rw [← enA_by]; exact hh, hr⟩
    rcases Nat.lt_or_ge g base with h1 | h1
    · exact absurd (hS g h1) hg
    · exact h1
theorem OS.len (h : OS w S A n c l) : l.length = n := h.1
theorem OS.le (h : OS w S A n c l) : n ≤ c := h.2.2.1
theorem OS.rd (h : OS w S A n c l) : Rd w w.heap.size A n l := (OV.rv h).rd
theorem OS.below (h : OS w S A n c l) (hb : Below w.heap.size w w') : OS w' S A n c l := OV.below h hb
theorem OS.drewN (h : OS w S A n c l) (k : Nat) : OS (w.drewN k) S A n c l := h
theorem OS.alloc (h : OS w S A n c l) (o : Obj) : OS (w.alloc o) S A n c l := OV.alloc h o
theorem OS.set (h : OS w S A n c l) {p : Addr} (hp : S p.block) (u : Value) : OS (w.setCell p u) S A n c l := OV.set h hp u
theorem OS.less (h : OS w S A n c l) (hs : ∀ k, S' k → S k) : OS w S' A n c l := OV.less h hs
theorem OS.more (h : OS w S A n c l) (hs : ∀ k, S' k → S k ∨ w.heap.size ≤ k) : OS w S' A n c l := OV.more h hs
theorem OS.also (h : OS w S A n c l) (o : Obj) : OS (w.alloc o) (Also S w.heap.size) A n c l := OV.also h o
theorem OS.nil_ : OS w S none 0 0 [] := OV.nil_
theorem OS.fresh (w : World) (S : Nat → Prop) (hS : ¬ S w.heap.size) (zs : List Int) (n : Nat) (hn : zs.length = n) (hm : n ≤ maxLen) (hr : rng zs) : OS (w.alloc (.cells (BL zs) 5)) S (some ⟨w.heap.size, 0, none⟩) n n zs := by
  rw [← enA_by]; exact OV.fresh w _ S hS zs n hn hm hr
end
theorem wpList_appS {w : World} {ops : Array Oper} {rest : List Oper} {o : Oper} {a : Act} {Q : Exit → Act → World → Prop} (hgd : o.guard = none) (s x : Operand)
    (ho : o.op = .call { callee := .builtin .append, args := #[s, x], argTypes := #[30, 30] })
    (S : Nat → Prop) (A : Option Addr) (n c : Nat) (l : List Int) (hs : a.eval s = .slice A n c) (h : OS w S A n c l) (B : Nat) (A2 : Option Addr) (m c2 : Nat) (l2 : List Int) (hx : a.eval x = .slice A2 m c2) (hr : Rd w B A2 m l2)
    (N : Nat) (hN : N = n + m) (L : List Int) (hL : L = l ++ l2) (hsz : n + m ≤ 140737488355328) (hS : ∀ k, S k → k < w.heap.size)
    (hK : ∀ A' c' w', OS w' S A' N c' L → Kp S w w' → wpList Tryz.prog ops Q rest (a.put o.dst (.slice A' N c')) w') : wpList Tryz.prog ops Q (o :: rest) a w :=
  wpList_appV byFit hgd s x ho S A n c l hs h B A2 m c2 l2 hx hr.rv N hN L hL (by omega) hS hK
end Go.Proofs.YtolifmpkillglaaGreatDoor
