import Derived.Test.YtolifmpkillglaaGreatDoorRows
import Derived.WalkKit
import Derived.ProofKit
import Derived.OpenShut
import Derived.LoopTactic
import Derived.RegionTactic
import Derived.Handy
import Derived.Lib.Hide
import Derived.Deep.QuietTactic
import Derived.Deep.Draws
import Derived.BigQuiet
import Derived.BigGuard
import Derived.Outline
import Derived.WalkSpells
import Derived.OwnWalk
import Derived.Below
set_option linter.unusedVariables false
set_option maxRecDepth 100000
namespace Go.Proofs.YtolifmpkillglaaGreatDoor
open Go.RowKit
/-! Bytes in memory: what is read, what the call made itself. -/
def rng (l : List Int) : Prop := ∀ x ∈ l, 0 ≤ x ∧ x < 256
theorem rng_nil : rng [] := by intro x h; cases h
theorem rng_app {l m : List Int} (h : rng l) (k : rng m) : rng (l ++ m) := by
  intro x hx
  rcases List.mem_append.1 hx with e | e
  · exact h x e
  · exact k x e
theorem rng_take {l : List Int} (h : rng l) (k : Nat) : rng (l.take k) := fun x hx => h x (List.mem_of_mem_take hx)
theorem rng_drop {l : List Int} (h : rng l) (k : Nat) : rng (l.drop k) := fun x hx => h x (List.mem_of_mem_drop hx)
theorem rng_getD {l : List Int} (h : rng l) (k : Nat) : 0 ≤ l.getD k 0 ∧ l.getD k 0 < 256 := by
  by_cases hk : k < l.length
  · rw [List.getD_eq_getElem?_getD, List.getElem?_eq_getElem hk]; exact h _ (List.getElem_mem hk)
  · rw [List.getD_eq_getElem?_getD, List.getElem?_eq_none (by omega)]; exact ⟨by decide, by decide⟩

/-- The n bytes l stand at A, in blocks below B. -/
def Rd (w : World) (B : Nat) (A : Option Addr) (n : Nat) (l : List Int) : Prop :=
  l.length = n ∧ rng l ∧ (0 < n → ∃ b off, A = some ⟨b, off, none⟩ ∧ b < B ∧ ∀ i, i < n → w.cell? ⟨b, off + i, none⟩ = some (.int .u8 (l.getD i 0)))
section
variable {w w' : World} {B B' n : Nat} {A : Option Addr} {l : List Int}
theorem Rd.len (h : Rd w B A n l) : l.length = n := h.1
theorem Rd.rg (h : Rd w B A n l) : rng l := h.2.1
theorem Rd.keep (h : Rd w B A n l) (hk : ∀ p : Addr, p.block < B → w'.cell? p = w.cell? p) : Rd w' B A n l :=
  ⟨h.1, h.2.1, fun hn => by
    obtain ⟨b, off, e, hb, hc⟩ := h.2.2 hn
    exact ⟨b, off, e, hb, fun i hi => (hk _ hb).trans (hc i hi)⟩⟩
theorem Rd.more (h : Rd w B A n l) (hB : B ≤ B') : Rd w B' A n l :=
  ⟨h.1, h.2.1, fun hn => by
    obtain ⟨b, off, e, hb, hc⟩ := h.2.2 hn
    exact ⟨b, off, e, by omega, hc⟩⟩
theorem Rd.below (h : Rd w B A n l) (hb : Below B' w w') (hB : B ≤ B') : Rd w' B A n l := h.keep fun p hp => hb.cell (by omega)
theorem Rd.drewN (h : Rd w B A n l) (k : Nat) : Rd (w.drewN k) B A n l := h
theorem Rd.none_ : Rd w B none 0 [] := ⟨rfl, rng_nil, fun h => absurd h (by omega)⟩
theorem Rd.zero (h : Rd w B A 0 l) : l = [] := List.eq_nil_of_length_eq_zero h.1
theorem Rd.empty : Rd w B A 0 [] := ⟨rfl, rng_nil, fun h => absurd h (by omega)⟩
theorem Rd.cut {i m : Nat} {A' : Option Addr} (h : Rd w B A n l) (hm : i + m ≤ n) (hA : 0 < m → A' = A.map (·.add i)) : Rd w B A' m ((l.drop i).take m) := by
  have hl := h.1
  refine ⟨by rw [List.length_take, List.length_drop, hl]; omega, rng_take (rng_drop h.2.1 _) _, fun hp => ?_⟩
  obtain ⟨b, off, e, hb, hc⟩ := h.2.2 (by omega)
  refine ⟨b, off + i, by rw [hA hp, e]; simp [Addr.add], hb, fun j hj => ?_⟩
  rw [Nat.add_assoc, hc (i + j) (by omega)]
  congr 2
  rw [List.getD_eq_getElem?_getD, List.getD_eq_getElem?_getD, List.getElem?_take, if_pos hj, List.getElem?_drop]
end
theorem cell_news {w : World} {b off n : Nat} {l : List Int} (hl : l.length = n) (hc : ∀ i, i < n → w.cell? ⟨b, off + i, none⟩ = some (.int .u8 (l.getD i 0))) :
    ∀ j u, (l.map (Value.int .u8))[j]? = some u → w.cell? ((⟨b, off, none⟩ : Addr).add j) = some u := by
  intro j u hu
  rw [List.getElem?_map] at hu
  by_cases hj : j < l.length
  · rw [List.getElem?_eq_getElem hj] at hu
    simp only [Option.map_some, Option.some.injEq] at hu
    rw [Addr.add_lit, hc j (by omega), ← hu, List.getD_eq_getElem?_getD, List.getElem?_eq_getElem hj]
    rfl
  · rw [List.getElem?_eq_none (by omega)] at hu; cases hu

/-- The n bytes l, in a row of the call's own from block base on, c cells of bytes in all. -/
def BL (zs : List Int) : Array Value := (zs.map (Value.int .u8)).toArray
def OB (w : World) (base : Nat) (A : Option Addr) (n c : Nat) (l : List Int) : Prop :=
  l.length = n ∧ rng l ∧ n ≤ c ∧ c ≤ maxLen ∧
  ((A = none ∧ n = 0 ∧ c = 0) ∨ ∃ g zs, A = some ⟨g, 0, none⟩ ∧ base ≤ g ∧ w.heap[g]? = some (.cells (BL zs) 5 (0, 0)) ∧ zs.length = c ∧ zs.take n = l ∧ rng zs)
theorem BL_cell {w : World} {g : Nat} {zs : List Int} {t : TypeId} (h : w.heap[g]? = some (.cells (BL zs) t (0, 0))) (i : Nat) (hi : i < zs.length) : w.cell? ⟨g, i, none⟩ = some (.int .u8 (zs.getD i 0)) := by
  rw [cell_of_row w g i _ t (0, 0) h]
  simp [BL, List.getD_eq_getElem?_getD, hi]
theorem lt_heap {w : World} {g : Nat} {o : Obj} (h : w.heap[g]? = some o) : g < w.heap.size := by
  rcases Nat.lt_or_ge g w.heap.size with hlt | hge
  · exact hlt
  · rw [Array.getElem?_eq_none hge] at h; cases h
section
variable {w w' : World} {base base' B n c : Nat} {A : Option Addr} {l : List Int}
theorem OB.len (h : OB w base A n c l) : l.length = n := h.1
theorem OB.rg (h : OB w base A n c l) : rng l := h.2.1
theorem OB.le (h : OB w base A n c l) : n ≤ c := h.2.2.1
theorem OB.rd (h : OB w base A n c l) : Rd w w.heap.size A n l := by
  obtain ⟨h1, h2, h3, h4, h5⟩ := h
  refine ⟨h1, h2, fun hn => ?_⟩
  rcases h5 with ⟨_, h0, _⟩ | ⟨g, zs, rfl, hg, hh, hz, ht, hr⟩
  · omega
  · refine ⟨g, 0, rfl, lt_heap hh, fun i hi => ?_⟩
    rw [Nat.zero_add, BL_cell hh i (by omega), ← ht]
    congr 2
    rw [List.getD_eq_getElem?_getD, List.getD_eq_getElem?_getD, List.getElem?_take, if_pos hi]
theorem OB.keep (h : OB w base A n c l) (hk : ∀ g, base ≤ g → g < w.heap.size → w'.heap[g]? = w.heap[g]?) : OB w' base A n c l := by
  obtain ⟨h1, h2, h3, h4, h5⟩ := h
  refine ⟨h1, h2, h3, h4, ?_⟩
  rcases h5 with h0 | ⟨g, zs, rfl, hg, hh, hz, ht, hr⟩
  · exact .inl h0
  · exact .inr ⟨g, zs, rfl, hg, (hk g hg (lt_heap hh)).trans hh, hz, ht, hr⟩
theorem OB.below (h : OB w base A n c l) (hb : Below w.heap.size w w') : OB w' base A n c l := h.keep fun g _ hg => hb.block g hg
theorem OB.drewN (h : OB w base A n c l) (k : Nat) : OB (w.drewN k) base A n c l := h
theorem OB.less (h : OB w base A n c l) (hb : base' ≤ base) : OB w base' A n c l := by
  obtain ⟨h1, h2, h3, h4, h5⟩ := h
  refine ⟨h1, h2, h3, h4, ?_⟩
  rcases h5 with h0 | ⟨g, zs, rfl, hg, hh⟩
  · exact .inl h0
  · exact .inr ⟨g, zs, rfl, by omega, hh⟩
theorem OB.nil_ : OB w base none 0 0 [] := ⟨rfl, rng_nil, Nat.le_refl _, Nat.zero_le _, .inl ⟨rfl, rfl, rfl⟩⟩
theorem OB.row {g : Nat} {zs : List Int} (hg : base ≤ g) (hh : w.heap[g]? = some (.cells (BL zs) 5 (0, 0))) (hz : zs.length = c) (hn : n ≤ c) (hm : c ≤ maxLen) (hr : rng zs) : OB w base (some ⟨g, 0, none⟩) n c (zs.take n) :=
  ⟨by rw [List.length_take]; omega, rng_take hr _, hn, hm, .inr ⟨g, zs, rfl, hg, hh, hz, rfl, hr⟩⟩
end
theorem below_drewN {B : Nat} {a w : World} (h : Below B a w) (n : Nat) : Below B a (w.drewN n) := ⟨h.os, h.tape, h.output, h.size, h.block⟩
theorem below_drewN' {B : Nat} {w : World} (n : Nat) : Below B w (w.drewN n) := below_drewN (Below.refl _ _) n

/-! append onto a row of the call's own. -/
theorem u8_info : (Tryz.prog.info? 5).map (fun i => (i.zero, i.size, i.bytes)) = some (some (.int .u8 0), 1, 1) := by kernel_rfl
theorem zero_u8 (k : Nat) : Builtin.zeroCells (Value.cells (.int .u8 0)) k = BL (List.replicate k 0) := by
  apply Array.ext
  · simp [Builtin.zeroCells, BL, Value.cells]
  · intro i h1 h2
    simp [Builtin.zeroCells, BL, Value.cells, Nat.mod_one]
theorem map_one (l : List Int) : ∀ u ∈ l.map (Value.int .u8), u.oneCell' = true := by
  intro u hu
  obtain ⟨x, _, rfl⟩ := List.mem_map.1 hu
  rfl
set_option maxRecDepth 100000 in
theorem run_app (w : World) (ty : TypeId) (base : Nat) (A : Option Addr) (n c : Nat) (l : List Int) (h : OB w base A n c l) (B : Nat) (A2 : Option Addr) (m c2 : Nat) (l2 : List Int) (hr : Rd w B A2 m l2)
    (hsz : n + m ≤ 140737488355328) (hbase : base ≤ w.heap.size) :
    ∃ A' c' w', (Builtin.append_ #[30, 30] ty #[.slice A n c, .slice A2 m c2]).run Tryz.prog w = .ok (.slice A' (n + m) c') w' ∧ OB w' base A' (n + m) c' (l ++ l2) ∧ Below base w w' := by
  obtain ⟨i0, hi, hz0, hz1, hz2⟩ := info_parts u8_info
  have ht := Tryz.underlying30
  obtain ⟨h1, h2, h3, h4, h5⟩ := h
  have hml : n + m ≤ maxLen := by unfold maxLen; omega
  have hll : (l ++ l2).length = n + m := by rw [List.length_append, h1, hr.1]
  have hrg := rng_app h2 hr.2.1
  by_cases hm0 : m = 0
  · subst hm0
    have he := hr.zero
    subst he
    refine ⟨A, c, w, ?_, by simpa using ⟨h1, h2, h3, h4, h5⟩, Below.refl _ _⟩
    rcases h5 with ⟨rfl, rfl, rfl⟩ | ⟨g, zs, rfl, hg, hh, hz, htk, hrz⟩
    · cases A2 <;> simp [Builtin.append_, run_underlying ht, sizeOf, typeInfo, hi, Builtin.lenOf, Builtin.firstCells, loadCells, loadCellsFrom]
    · cases A2 <;> simp [Builtin.append_, run_underlying ht, sizeOf, typeInfo, hi, Builtin.lenOf, Builtin.firstCells, h3, storeCells, loadCells, loadCellsFrom]
  · obtain ⟨b2, off2, rfl, hb2, hc2⟩ := hr.2.2 (by omega)
    have hnews := cell_news hr.1 hc2
    have hl2 : (l2.map (Value.int .u8)).length = m * i0.size := by rw [List.length_map, hr.1, hz1]; omega
    have hge := fun old => grownCap_ge w (n + m) old 5
    have hcm := fun old => grownCap_le_maxLen w (n + m) old 5 hml
    have grown : ∀ old, OB (w.drew.alloc (.cells ((l.map (Value.int .u8)).toArray ++ (l2.map (Value.int .u8)).toArray ++ Builtin.zeroCells (Value.cells (.int .u8 0)) (grownCap w (n + m) old 5 - (n + m))) 5)) base
        (some ⟨w.heap.size, 0, none⟩) (n + m) (grownCap w (n + m) old 5) (l ++ l2) := by
      intro old
      have e : ((l.map (Value.int .u8)).toArray ++ (l2.map (Value.int .u8)).toArray ++ Builtin.zeroCells (Value.cells (.int .u8 0)) (grownCap w (n + m) old 5 - (n + m))) = BL ((l ++ l2) ++ List.replicate (grownCap w (n + m) old 5 - (n + m)) 0) := by
        rw [zero_u8]; simp [BL]
      rw [e]
      have := hge old
      have k := OB.row (w := w.drew.alloc (.cells (BL ((l ++ l2) ++ List.replicate (grownCap w (n + m) old 5 - (n + m)) 0)) 5)) (base := base) (g := w.heap.size) (n := n + m) (c := grownCap w (n + m) old 5)
        hbase (heap_alloc_new w.drew _) (by rw [List.length_append, hll, List.length_replicate]; omega) this (hcm old)
        (rng_app hrg (fun x hx => by obtain ⟨_, rfl⟩ := List.mem_replicate.1 hx; exact ⟨by decide, by decide⟩))
      rwa [← hll, List.take_left, hll] at k
    have hbl : ∀ o, Below base w (w.drew.alloc o) := fun o => ((Below.refl _ _).drew).alloc hbase o
    rcases h5 with ⟨rfl, rfl, rfl⟩ | ⟨g, zs, rfl, hg, hh, hz, htk, hrz⟩
    · have hl0 : l = [] := List.eq_nil_of_length_eq_zero h1
      subst hl0
      have hr' := run_append_nil (P := Tryz.prog) w 30 ty 5 i0 _ ht hi hz0 ⟨b2, off2, none⟩ m c2 _ hl2 hnews (by omega) (by omega) (by rw [hz2]; omega)
      have hg' := grown 0
      simp only [Nat.zero_add, List.nil_append, List.map_nil, Array.empty_append] at hr' hg' ⊢
      exact ⟨_, _, _, hr', hg', hbl _⟩
    · by_cases hroom : n + m ≤ c
      · have hfit : n * i0.size + (l2.map (Value.int .u8)).length ≤ (BL zs).size := by rw [hl2, hz1]; simp [BL]; omega
        have hr' := run_append_room (P := Tryz.prog) w 30 ty 5 i0 ht hi g n c (BL zs) hh ⟨b2, off2, none⟩ m c2 _ hl2 hnews (map_one l2) hroom hfit
        have e : ((BL zs).toList.take (n * i0.size) ++ l2.map (Value.int .u8) ++ (BL zs).toList.drop (n * i0.size + (l2.map (Value.int .u8)).length)).toArray = BL (l ++ l2 ++ zs.drop (n + m)) := by
          rw [hl2, hz1, Nat.mul_one, Nat.mul_one, ← htk]
          simp [BL]
        rw [e] at hr'
        refine ⟨_, _, _, hr', ?_, ?_⟩
        · have k := OB.row (w := w.setRow g (BL (l ++ l2 ++ zs.drop (n + m)))) (base := base) (g := g) (n := n + m) (c := c) hg (setRow_heap w g (BL zs) _ 5 _ hh)
            (by rw [List.length_append, hll, List.length_drop]; omega) hroom h4 (rng_app hrg (rng_drop hrz _))
          rwa [← hll, List.take_left, hll] at k
        · exact ⟨rfl, rfl, rfl, by simp, fun k hk => setRow_other w g k _ (by omega)⟩
      · have holds : ∀ j u, (l.map (Value.int .u8))[j]? = some u → w.cell? ((⟨g, 0, none⟩ : Addr).add j) = some u := by
          refine cell_news (off := 0) h1 (fun i hi => ?_)
          rw [Nat.zero_add, BL_cell hh i (by omega), ← htk]
          congr 2
          rw [List.getD_eq_getElem?_getD, List.getD_eq_getElem?_getD, List.getElem?_take, if_pos hi]
        have hr' := run_append_grow (P := Tryz.prog) w 30 ty 5 i0 _ ht hi hz0 ⟨g, 0, none⟩ n c (l.map (Value.int .u8)) (by rw [List.length_map, h1, hz1]; omega) holds ⟨b2, off2, none⟩ m c2 _ hl2 hnews
          (by omega) (by omega) (growslice_fits (by omega) (by rw [hz2]; omega))
        exact ⟨_, _, _, hr', grown c, hbl _⟩
theorem wpList_app {w : World} {ops : Array Oper} {rest : List Oper} {o : Oper} {a : Act} {Q : Exit → Act → World → Prop} (hgd : o.guard = none) (s x : Operand)
    (ho : o.op = .call { callee := .builtin .append, args := #[s, x], argTypes := #[30, 30] })
    (base : Nat) (A : Option Addr) (n c : Nat) (l : List Int) (hs : a.eval s = .slice A n c) (h : OB w base A n c l) (B : Nat) (A2 : Option Addr) (m c2 : Nat) (l2 : List Int) (hx : a.eval x = .slice A2 m c2) (hr : Rd w B A2 m l2)
    (N : Nat) (hN : N = n + m) (L : List Int) (hL : L = l ++ l2) (hsz : n + m ≤ 140737488355328) (hbase : base ≤ w.heap.size)
    (hK : ∀ A' c' w', OB w' base A' N c' L → Below base w w' → wpList Tryz.prog ops Q rest (a.put o.dst (.slice A' N c')) w') : wpList Tryz.prog ops Q (o :: rest) a w := by
  refine wpList_plain hgd fun K hK' => ?_
  subst hN
  subst hL
  obtain ⟨A', c', w', hrun, h2, h3⟩ := run_app w o.type base A n c l h B A2 m c2 l2 hr hsz hbase
  unfold Oper.wp execOp
  simp only [ho, resolve, invoke, builtin, Sem.run_bind, Sem.run_pure, Result.andThen_ok, List.map_toArray, List.map_cons, List.map_nil, hs, hx, hrun]
  exact hK' _ _ (hK A' c' w' h2 h3)
end Go.Proofs.YtolifmpkillglaaGreatDoor
