import Derived.Test.YtolifmpkillglaaGreatDoorIe
import Derived.Laws.Tables
import Derived.Laws.Rows
set_option linter.unusedVariables false
set_option maxRecDepth 100000
namespace Go.Proofs.YtolifmpkillglaaGreatDoor
open Go.RowKit
/-! One instruction of the code's own reading. -/
theorem Blk.all10 {w : World} {h : Nat} {t : TypeId} {u0 u1 u2 u3 u4 u5 u6 u7 u8 u9 : Value} (X : Blk w h #[u0, u1, u2, u3, u4, u5, u6, u7, u8, u9] t) (v0 v1 v2 v3 v4 v5 v6 v7 v8 v9 : Value) : Blk (((((((((((w).setCell ⟨h, 0, none⟩ v0).setCell ⟨h, 1, none⟩ v1).setCell ⟨h, 2, none⟩ v2).setCell ⟨h, 3, none⟩ v3).setCell ⟨h, 4, none⟩ v4).setCell ⟨h, 5, none⟩ v5).setCell ⟨h, 6, none⟩ v6).setCell ⟨h, 7, none⟩ v7).setCell ⟨h, 8, none⟩ v8).setCell ⟨h, 9, none⟩ v9) h #[v0, v1, v2, v3, v4, v5, v6, v7, v8, v9] t := by
  have := (((((((((X.set 0 v0).set 1 v1).set 2 v2).set 3 v3).set 4 v4).set 5 v5).set 6 v6).set 7 v7).set 8 v8).set 9 v9
  simpa using this
theorem Kp.all10 {S : Nat → Prop} {a w : World} (K : Kp S a w) {h : Nat} (hp : ¬ S h) (v0 v1 v2 v3 v4 v5 v6 v7 v8 v9 : Value) : Kp S a (((((((((((w).setCell ⟨h, 0, none⟩ v0).setCell ⟨h, 1, none⟩ v1).setCell ⟨h, 2, none⟩ v2).setCell ⟨h, 3, none⟩ v3).setCell ⟨h, 4, none⟩ v4).setCell ⟨h, 5, none⟩ v5).setCell ⟨h, 6, none⟩ v6).setCell ⟨h, 7, none⟩ v7).setCell ⟨h, 8, none⟩ v8).setCell ⟨h, 9, none⟩ v9) :=
  (((((((((K.setCell (p := ⟨h, 0, none⟩) hp v0).setCell (p := ⟨h, 1, none⟩) hp v1).setCell (p := ⟨h, 2, none⟩) hp v2).setCell (p := ⟨h, 3, none⟩) hp v3).setCell (p := ⟨h, 4, none⟩) hp v4).setCell (p := ⟨h, 5, none⟩) hp v5).setCell (p := ⟨h, 6, none⟩) hp v6).setCell (p := ⟨h, 7, none⟩) hp v7).setCell (p := ⟨h, 8, none⟩) hp v8).setCell (p := ⟨h, 9, none⟩) hp v9
theorem Kp.below' {m : Nat} {w w' : World} (k : Kp (Lt m) w w') : Below m w w' := k.below (fun _ h => h)
theorem Kp.ofb {m : Nat} {w w' : World} (k : Below m w w') : Kp (Lt m) w w' := Kp.of_below k (fun _ h => h)
/-- The kind of what stands behind a number. -/
def kO (o : Int) : Nat := ((ofC o).1.imm).toNat
theorem ofC_ok : ∀ n : Nat, n < 256 → (ofC (n : Int)).2 = 0 → (ofC (n : Int)).1.op = n ∧ (ofC (n : Int)).1.imm = (kO (n : Int) : Int) ∧ kO (n : Int) < 12 ∧ (ofC (n : Int)).1.jumps = (kO (n : Int) == 5 || kO (n : Int) == 6 || kO (n : Int) == 7) := by decide +kernel
theorem ofC_no : ∀ n : Nat, n < 256 → (ofC (n : Int)).2 ≠ 0 → ofC (n : Int) = (Inf.zero, 6) := by decide +kernel
def scI (f o : Int) : Sc := ⟨f, o, 0, 0, 0, 0, 0, 0⟩
/-- The instruction at a place of the bytes: its error, itself, the place behind. -/
def insE (l : List Int) (i : Nat) : Int × Ins × Nat :=
  let o := l.getD i 0
  let k := kO o
  let b := (l.drop (i + 1)).take (hdS k)
  let cnt := (headR k b).toNat
  let b2 := (l.drop (i + 1 + hdS k)).take (cnt * rwS k)
  let x : Ins := ⟨headSc k i b (scI i o), tabC k i b2 cnt, matC k b2 cnt⟩
  if (ofC o).2 ≠ 0 then (5, Ins.zero, 0)
  else if l.length < i + 1 + hdS k then (4, Ins.zero, 0)
  else if headR k b < 0 then (5, Ins.zero, 0)
  else if l.length < i + 1 + hdS k + cnt * rwS k then (4, Ins.zero, 0)
  else if chk k x.sc.a x.sc.pool x.mat then (0, x, i + 1 + hdS k + cnt * rwS k)
  else (5, Ins.zero, 0)
/-- An instruction by value, its rows in new blocks. -/
structure InsN (w : World) (S : Nat → Prop) (r : RI) (x : Ins) : Prop where
  sc : r.sc = x.sc
  tab : OV inR 3 w S r.tA r.tn r.tc x.tab
  mat : OV woR 24 w S r.mA r.mn r.mc x.mat
theorem InsN.zero (w : World) (S : Nat → Prop) : InsN w S RI.zero Ins.zero := ⟨rfl, OV.nil_, OV.nil_⟩
theorem InsN.below {w w' : World} {S : Nat → Prop} {r : RI} {x : Ins} (h : InsN w S r x) (hb : Below w.heap.size w w') : InsN w' S r x := ⟨h.sc, h.tab.below hb, h.mat.below hb⟩
def RdISaid (l : List Int) (i : Nat) : Prop := ∀ (w : World) (B : Nat) (A : Option Addr) (n c : Nat), Tab w → Rd w B A n l → n ≤ c → n ≤ 2000 → B ≤ w.heap.size → i < n →
  Calls Tryz.prog 40 #[.slice A n c, .int .i64 i] w fun e w' => ∃ v r, e = .returned (.tuple #[r.val, .int .i64 (insE l i).2.2, v]) ∧ EV v (insE l i).1 ∧ InsN w' (Lt w.heap.size) r (insE l i).2.1 ∧ Below w.heap.size w w'
theorem insE_no (l : List Int) (i : Nat) (h : (ofC (l.getD i 0)).2 ≠ 0) : insE l i = (5, Ins.zero, 0) := by
  unfold insE
  simp only [if_pos h]
theorem insE_s1 (l : List Int) (i : Nat) (h : (ofC (l.getD i 0)).2 = 0) (h1 : l.length < i + 1 + hdS (kO (l.getD i 0))) : insE l i = (4, Ins.zero, 0) := by
  unfold insE
  simp only [if_neg (fun g : _ ≠ _ => g h), if_pos h1]
theorem insE_neg (l : List Int) (i k : Nat) (b : List Int) (h : (ofC (l.getD i 0)).2 = 0) (hk : kO (l.getD i 0) = k) (h1 : ¬ l.length < i + 1 + hdS k) (hb : (l.drop (i + 1)).take (hdS k) = b) (h2 : headR k b < 0) : insE l i = (5, Ins.zero, 0) := by
  subst hk hb
  unfold insE
  simp only [if_neg (fun g : _ ≠ _ => g h), if_neg h1, if_pos h2]
theorem insE_s2 (l : List Int) (i k : Nat) (b : List Int) (cnt : Nat) (h : (ofC (l.getD i 0)).2 = 0) (hk : kO (l.getD i 0) = k) (h1 : ¬ l.length < i + 1 + hdS k) (hb : (l.drop (i + 1)).take (hdS k) = b) (h2 : headR k b = cnt) (h3 : l.length < i + 1 + hdS k + cnt * rwS k) : insE l i = (4, Ins.zero, 0) := by
  subst hk hb
  have e : (headR (kO (l.getD i 0)) ((l.drop (i + 1)).take (hdS (kO (l.getD i 0))))).toNat = cnt := by rw [h2]; rfl
  unfold insE
  simp only [if_neg (fun g : _ ≠ _ => g h), if_neg h1, if_neg (show ¬ headR (kO (l.getD i 0)) ((l.drop (i + 1)).take (hdS (kO (l.getD i 0)))) < 0 by omega), e, if_pos h3]
theorem insE_end (l : List Int) (i k : Nat) (b b2 : List Int) (cnt : Nat) (h : (ofC (l.getD i 0)).2 = 0) (hk : kO (l.getD i 0) = k) (h1 : ¬ l.length < i + 1 + hdS k) (hb : (l.drop (i + 1)).take (hdS k) = b) (h2 : headR k b = cnt) (h3 : ¬ l.length < i + 1 + hdS k + cnt * rwS k) (hb2 : (l.drop (i + 1 + hdS k)).take (cnt * rwS k) = b2) :
    insE l i = if chk k (headSc k i b (scI i (l.getD i 0))).a (headSc k i b (scI i (l.getD i 0))).pool (matC k b2 cnt) then (0, ⟨headSc k i b (scI i (l.getD i 0)), tabC k i b2 cnt, matC k b2 cnt⟩, i + 1 + hdS k + cnt * rwS k) else (5, Ins.zero, 0) := by
  subst hk hb hb2
  have e : (headR (kO (l.getD i 0)) ((l.drop (i + 1)).take (hdS (kO (l.getD i 0))))).toNat = cnt := by rw [h2]; rfl
  unfold insE
  simp only [if_neg (fun g : _ ≠ _ => g h), if_neg h1, if_neg (show ¬ headR (kO (l.getD i 0)) ((l.drop (i + 1)).take (hdS (kO (l.getD i 0)))) < 0 by omega), e, if_neg h3]
theorem headR_bd (k : Nat) (b : List Int) (hr : rng b) : headR k b ≤ 65536 := by
  have h2 := wd_rg b hr 2
  have h4 := wd_rg b hr 4
  have g2 := worth_rg _ h2.1 h2.2
  have g4 := worth_rg _ h4.1 h4.2
  unfold headR
  split
  · unfold rowsT; split <;> omega
  · omega
  · omega
theorem headR_k (k : Nat) (b : List Int) (h6 : k ≠ 6) (h7 : k ≠ 7) : headR k b = 0 := by
  unfold headR
  split
  · exact absurd rfl h6
  · exact absurd rfl h7
  · rfl
theorem rows_any (k cnt : Nat) (hk : k < 12) (f : Int) (b b0 : List Int) (hc : headR k b0 = cnt) (hr : rng b0) (f0 : 0 ≤ f) (f1 : f ≤ 281474976710656) (hb : cnt * rwS k ≤ b.length) : RowsSaid k f b cnt := by
  have hbd := headR_bd k b0 hr
  by_cases h7 : k = 7
  · subst h7
    exact fr_look f b cnt f0 f1 (by have : cnt * 4 ≤ b.length := hb; omega) (by omega)
  · by_cases h6 : k = 6
    · subst h6
      exact fr_tab f b cnt f0 f1 (by have : cnt * 2 ≤ b.length := hb; omega) (by omega)
    · have := headR_k k b0 h6 h7
      obtain rfl : cnt = 0 := by omega
      exact fr_none k hk f b h7
theorem inst_sz : (Tryz.prog.info? 28).map (·.size) = some 10 := by kernel_rfl
theorem wpList_stI {w : World} {ops : Array Oper} {rest : List Oper} {o : Oper} {a : Act} {Q : Exit → Act → World → Prop} {h : Nat} {old cells : Array Value} (hgd : o.guard = none) (x y : Operand) (ho : o.op = .store 28 x y)
    (X : Blk w h old 28) (h0 : old.size = 10) (hc : cells.size = 10) (h1 : cells.toList.all (·.oneCell') = true) (hx : a.eval x = .pointer (some ⟨h, 0, none⟩)) (hy : a.eval y = .agg cells)
    (hK : ∀ W, Blk W h cells 28 → Kp (Not1 h) w W → wpList Tryz.prog ops Q rest (a.put o.dst undef) W) : wpList Tryz.prog ops Q (o :: rest) a w :=
  wpList_plain hgd fun _ hK' => wp_store_row _ x y ho h cells hx hy _ old X (by rw [inst_sz, hc]) (by rw [h0, hc]) (by rw [← Array.all_toList]; exact h1)
    (hK' _ _ (hK (w.setRow h cells) (setRow_heap w h old cells _ (0, 0) X) ⟨rfl, rfl, rfl, by simp, fun k hk => setRow_other w h k _ hk⟩))
theorem wpList_ldI {w : World} {ops : Array Oper} {rest : List Oper} {o : Oper} {a : Act} {Q : Exit → Act → World → Prop} {h : Nat} {cells : Array Value} (hgd : o.guard = none) (x : Operand) (ho : o.op = .load 28 x)
    (X : Blk w h cells 28) (hc : cells.size = 10) (hx : a.eval x = .pointer (some ⟨h, 0, none⟩)) (hK : wpList Tryz.prog ops Q rest (a.put o.dst (.agg cells)) w) : wpList Tryz.prog ops Q (o :: rest) a w :=
  wpList_load_row hgd _ x ho h hx _ cells (0, 0) _ X Tryz.underlying28 rfl (by rw [inst_sz, hc]) hK
theorem res39 (tmps : Array Value) (h : Nat) (cells : Array Value) (W : World) (nx ev : Value) (X : Blk W h cells 28) (hc : cells.size = 10) (h4 : tmps.getD 4 undef = .pointer (some ⟨h, 0, none⟩)) (h5 : tmps.getD 5 undef = nx) (h6 : tmps.getD 6 undef = ev) :
    (results Tryz.f40 tmps).run Tryz.prog W = .ok (.tuple #[.agg cells, nx, ev]) W := by
  have hl := run_loadVar_row (P := Tryz.prog) W h 28 28 cells (0, 0) _ X Tryz.underlying28 rfl (by rw [inst_sz, hc])
  have h4' : tmps[4]?.getD undef = .pointer (some ⟨h, 0, none⟩) := by simpa using h4
  have h5' : tmps[5]?.getD undef = nx := by simpa using h5
  have h6' : tmps[6]?.getD undef = ev := by simpa using h6
  simp [results, Tryz.results40, h4', h5', h6', asAddr, hl]
end Go.Proofs.YtolifmpkillglaaGreatDoor
