import Derived.Test.YtolifmpkillglaaGreatDoorIg
import Derived.Test.YtolifmpkillglaaGreatDoorIj
set_option linter.unusedVariables false
set_option maxRecDepth 100000
namespace Go.Proofs.YtolifmpkillglaaGreatDoor
open Go.RowKit
/-! Rows of instructions that grow; what the code reads, as a function of the bytes. -/
theorem riFit : Fit Tryz.prog riR 22 28 104 :=
  fit_of (z := RI.zero.val) Tryz.underlying22 (m := 10) (by kernel_rfl) rfl rfl (by decide)
theorem rv_ri (w : World) (r : RI) (h : r.sc.ok) : RV riR (w.alloc (.cells #[.int .i64 r.sc.at_, .int .u8 r.sc.op, .int .i64 r.sc.a, .int .u8 r.sc.b, .int .u16 r.sc.n, .int .i64 r.sc.pool, .int .i64 r.sc.jump, .slice r.tA r.tn r.tc, .slice r.mA r.mn r.mc, .int .u16 r.sc.low] 28)) (w.heap.size + 1) (some ⟨w.heap.size, 0, none⟩) 1 [r] := by
  refine ⟨rfl, allok_one h, fun _ => ⟨w.heap.size, 0, rfl, by omega, fun i hi j hj => ?_⟩⟩
  obtain rfl : i = 0 := by omega
  have := (BX.new w r).cells10 j
  have e : 0 + (0 * riR.m + j) = j := by omega
  rw [e]
  exact this
/-- The blocks of instructions' rows. -/
def SubB (rs : List RI) (k : Nat) : Prop := ∃ r ∈ rs, (∃ a : Addr, r.tA = some a ∧ a.block = k) ∨ (∃ a : Addr, r.mA = some a ∧ a.block = k)
structure IN (w : World) (m : Nat) (A : Option Addr) (n c : Nat) (rs : List RI) (l : List Ins) : Prop where
  rv : OV riR 28 w (Lt m) A n c rs
  len : l.length = n
  each : ∀ i, i < n → InsN w (Off A m) (rs.getD i RI.zero) (l.getD i Ins.zero)
theorem OV.move {α : Type} {R : Rec α} {e : TypeId} {w w' : World} {m n c : Nat} {A A' T : Option Addr} {l : List α} {S : Nat → Prop} (O : OV R e w (Off A m) T n c l) (K : Kp S w w') (hS : ∀ a, T = some a → S a.block) (hA : ∀ a, A' = some a → ¬ S a.block) : OV R e w' (Off A' m) T n c l := by
  obtain ⟨h1, h2, h3, h4, h5⟩ := O
  refine ⟨h1, h2, h3, h4, ?_⟩
  rcases h5 with h0 | ⟨g, zs, rfl, hg, hh, hr⟩
  · exact .inl h0
  · refine .inr ⟨g, zs, rfl, ?_, (K.block g (hS _ rfl)).trans hh, hr⟩
    rintro (h | ⟨a, ha, hb⟩)
    · exact hg (.inl h)
    · exact hA a ha (by rw [hb]; exact hS _ rfl)
theorem InsN.move {w w' : World} {m : Nat} {A A' : Option Addr} {r : RI} {x : Ins} {S : Nat → Prop} (h : InsN w (Off A m) r x) (K : Kp S w w') (hS : ∀ k, SubB [r] k → S k) (hA : ∀ a, A' = some a → ¬ S a.block) : InsN w' (Off A' m) r x :=
  ⟨h.sc, h.tab.move K (fun a ha => hS _ ⟨r, List.mem_singleton.2 rfl, .inl ⟨a, ha, rfl⟩⟩) hA, h.mat.move K (fun a ha => hS _ ⟨r, List.mem_singleton.2 rfl, .inr ⟨a, ha, rfl⟩⟩) hA⟩
theorem InsN.out {w : World} {S : Nat → Prop} {r : RI} {x : Ins} (h : InsN w S r x) : ∀ k, SubB [r] k → ¬ S k ∧ k < w.heap.size := by
  rintro k ⟨r', hr, ha⟩
  obtain rfl := List.mem_singleton.1 hr
  rcases ha with ⟨⟨b, o, s⟩, ha, rfl⟩ | ⟨⟨b, o, s⟩, ha, rfl⟩
  · exact h.tab.out b o s ha
  · exact h.mat.out b o s ha
theorem subB_get {rs : List RI} {k : Nat} (h : SubB rs k) : ∃ i, i < rs.length ∧ SubB [rs.getD i RI.zero] k := by
  obtain ⟨r, hr, ha⟩ := h
  obtain ⟨i, hi, rfl⟩ := List.getElem_of_mem hr
  refine ⟨i, hi, rs[i], ?_, ha⟩
  rw [List.getD_eq_getElem?_getD, List.getElem?_eq_getElem hi]
  exact List.mem_singleton.2 rfl
theorem subB_one {rs : List RI} {i : Nat} (hi : i < rs.length) {k : Nat} (h : SubB [rs.getD i RI.zero] k) : SubB rs k := by
  obtain ⟨r, hr, ha⟩ := h
  obtain rfl := List.mem_singleton.1 hr
  refine ⟨_, ?_, ha⟩
  rw [List.getD_eq_getElem?_getD, List.getElem?_eq_getElem hi]
  exact List.getElem_mem hi
def KeepS (m : Nat) (rs : List RI) : Nat → Prop := fun k => k < m ∨ SubB rs k
section
variable {w w' : World} {m n c : Nat} {A : Option Addr} {rs : List RI} {l : List Ins}
theorem IN.nil (w : World) (m : Nat) : IN w m none 0 0 [] [] := ⟨OV.nil_, rfl, fun i h => absurd h (by omega)⟩
theorem IN.lenr (h : IN w m A n c rs l) : rs.length = n := h.rv.len
theorem IN.below (h : IN w m A n c rs l) (hb : Below w.heap.size w w') : IN w' m A n c rs l := ⟨h.rv.below hb, h.len, fun i hi => (h.each i hi).below hb⟩
theorem IN.sub (h : IN w m A n c rs l) : ∀ k, SubB rs k → ¬ Off A m k ∧ k < w.heap.size := by
  intro k hk
  obtain ⟨i, hi, h1⟩ := subB_get hk
  exact (h.each i (by rw [← h.lenr]; exact hi)).out k h1
theorem IN.own (h : IN w m A n c rs l) {r : RI} {x : Ins} (hr : InsN w (Off A m) r x) : OV riR 28 w (KeepS m (rs ++ [r])) A n c rs := by
  obtain ⟨h1, h2, h3, h4, h5⟩ := h.rv
  refine ⟨h1, h2, h3, h4, ?_⟩
  rcases h5 with h0 | ⟨g, zs, rfl, hg, hh⟩
  · exact .inl h0
  · refine .inr ⟨g, zs, rfl, ?_, hh⟩
    rintro (hk | ⟨r', hr', ha⟩)
    · exact hg hk
    · have hoff : Off (some ⟨g, 0, none⟩) m g := .inr ⟨_, rfl, rfl⟩
      rcases List.mem_append.1 hr' with hm | hm
      · exact (h.sub g ⟨r', hm, ha⟩).1 hoff
      · exact (hr.out g ⟨r', hm, ha⟩).1 hoff
theorem IN.live (h : IN w m A n c rs l) (hm : m ≤ w.heap.size) {r : RI} {x : Ins} (hr : InsN w (Off A m) r x) : ∀ k, KeepS m (rs ++ [r]) k → k < w.heap.size := by
  rintro k (hk | ⟨r', hr', ha⟩)
  · omega
  · rcases List.mem_append.1 hr' with h1 | h1
    · exact (h.sub k ⟨r', h1, ha⟩).2
    · exact (hr.out k ⟨r', h1, ha⟩).2
theorem IN.more (h : IN w m A n c rs l) {r : RI} {x : Ins} (hr : InsN w (Off A m) r x) {A' : Option Addr} {c' : Nat} (O : OV riR 28 w' (KeepS m (rs ++ [r])) A' (n + 1) c' (rs ++ [r])) (K : Kp (KeepS m (rs ++ [r])) w w') : IN w' m A' (n + 1) c' (rs ++ [r]) (l ++ [x]) := by
  have hA : ∀ a, A' = some a → ¬ KeepS m (rs ++ [r]) a.block := by
    rintro ⟨b, o, s⟩ ha
    exact (O.out b o s ha).1
  refine ⟨O.less (fun k hk => .inl hk), by rw [List.length_append, h.len]; rfl, fun i hi => ?_⟩
  by_cases hlt : i < n
  · have e1 : (rs ++ [r]).getD i RI.zero = rs.getD i RI.zero := by
      rw [List.getD_eq_getElem?_getD, List.getD_eq_getElem?_getD, List.getElem?_append_left (by rw [h.lenr]; exact hlt)]
    have e2 : (l ++ [x]).getD i Ins.zero = l.getD i Ins.zero := by
      rw [List.getD_eq_getElem?_getD, List.getD_eq_getElem?_getD, List.getElem?_append_left (by rw [h.len]; exact hlt)]
    rw [e1, e2]
    refine (h.each i hlt).move K (fun k hk => .inr ?_) hA
    obtain ⟨r', hr', ha⟩ := subB_one (by rw [h.lenr]; exact hlt) hk
    exact ⟨r', List.mem_append_left _ hr', ha⟩
  · obtain rfl : i = n := by omega
    have e1 : (rs ++ [r]).getD i RI.zero = r := by
      rw [List.getD_eq_getElem?_getD, List.getElem?_append_right (by rw [h.lenr]; exact Nat.le_refl _), h.lenr]
      simp
    have e2 : (l ++ [x]).getD i Ins.zero = x := by
      rw [List.getD_eq_getElem?_getD, List.getElem?_append_right (by rw [h.len]; exact Nat.le_refl _), h.len]
      simp
    rw [e1, e2]
    refine hr.move K (fun k hk => .inr ?_) hA
    obtain ⟨r', hr', ha⟩ := hk
    exact ⟨r', List.mem_append_right _ hr', ha⟩
theorem IN.iv (h : IN w m A n c rs l) : IV w w.heap.size A n rs l := ⟨h.rv.rv, h.len, fun i hi => by
  have := h.each i hi
  exact ⟨this.sc, by have h1 := this.tab.rv; have h2 := this.tab.len; exact h1, this.mat.rv, this.tab.le, this.mat.le⟩⟩
end
/-- What stands from a place on: the error, or the instructions. -/
def readF (l : List Int) : Nat → Nat → Int × List Ins
  | 0, _ => (0, [])
  | f + 1, i => if i < l.length then
      (if (insE l i).1 ≠ 0 then ((insE l i).1, []) else
        (if (readF l f (insE l i).2.2).1 ≠ 0 then ((readF l f (insE l i).2.2).1, []) else (0, (insE l i).2.1 :: (readF l f (insE l i).2.2).2)))
    else (0, [])
def readL (l : List Int) : Int × List Ins :=
  if l.length = 0 then (5, []) else if (readF l l.length 0).1 ≠ 0 then ((readF l l.length 0).1, []) else if waysL (readF l l.length 0).2 l.length then (0, (readF l l.length 0).2) else (5, [])
def readC (l : List Int) : Int × List Ins := if 2000 < l.length then (3, []) else readL l
theorem headSc_at (k : Nat) (f : Int) (b : List Int) (s : Sc) : (headSc k f b s).at_ = s.at_ ∧ (headSc k f b s).op = s.op := by
  unfold headSc
  split <;> exact ⟨rfl, rfl⟩
theorem headSc_ok (k : Nat) (f : Int) (b : List Int) (hb : rng b) (s : Sc) (hs : s.ok) : (headSc k f b s).ok := by
  have g0 := rng_getD hb 0
  have g1 := rng_getD hb 1
  have g3 := rng_getD hb 3
  have w0 := wd_rg b hb 0
  have w2 := wd_rg b hb 2
  obtain ⟨⟨a1, a2⟩, ⟨b1, b2⟩, ⟨c1, c2⟩, ⟨d1, d2⟩⟩ := hs
  have hsg : 0 ≤ sgn8 (b.getD 0 0) ∧ sgn8 (b.getD 0 0) < 65536 := by unfold sgn8; split <;> omega
  unfold headSc
  split
  all_goals
    refine ⟨⟨?_, ?_⟩, ⟨?_, ?_⟩, ⟨?_, ?_⟩, ⟨?_, ?_⟩⟩ <;> first | exact a1 | exact a2 | exact b1 | exact b2 | exact c1 | exact c2 | exact d1 | exact d2 | exact hsg.1 | exact hsg.2 | exact w0.1 | exact w0.2 | exact w2.1 | exact w2.2 | exact g1.1 | exact g1.2 | exact g3.1 | exact g3.2
/-- What an instruction without error is. -/
theorem insE_ok (l : List Int) (i : Nat) (hr : rng l) (hi : i < l.length) (h : (insE l i).1 = 0) :
    (insE l i).2.1.sc.at_ = i ∧ (insE l i).2.1.sc.op = l.getD i 0 ∧ (insE l i).2.1.tab.length ≤ 65536 ∧ i < (insE l i).2.2 ∧ (insE l i).2.2 ≤ l.length ∧ (insE l i).2.1.sc.ok := by
  have ho := rng_getD hr i
  by_cases hok : (ofC (l.getD i 0)).2 = 0
  · by_cases h1 : l.length < i + 1 + hdS (kO (l.getD i 0))
    · rw [insE_s1 l i hok h1] at h
      exact absurd h (by show ¬ (4 : Int) = 0; decide)
    · obtain ⟨k, hk⟩ : ∃ k, kO (l.getD i 0) = k := ⟨_, rfl⟩
      rw [hk] at h1
      obtain ⟨b, hb⟩ : ∃ b, (l.drop (i + 1)).take (hdS k) = b := ⟨_, rfl⟩
      have hbr : rng b := by rw [← hb]; exact rng_take (rng_drop hr _) _
      by_cases hn : headR k b < 0
      · rw [insE_neg l i k b hok hk h1 hb hn] at h
        exact absurd h (by show ¬ (5 : Int) = 0; decide)
      · obtain ⟨cnt, hc⟩ : ∃ cnt : Nat, headR k b = cnt := ⟨(headR k b).toNat, by omega⟩
        have hbd := headR_bd k b hbr
        by_cases h3 : l.length < i + 1 + hdS k + cnt * rwS k
        · rw [insE_s2 l i k b cnt hok hk h1 hb hc h3] at h
          exact absurd h (by show ¬ (4 : Int) = 0; decide)
        · have he := insE_end l i k b _ cnt hok hk h1 hb hc h3 rfl
          by_cases hck : chk k (headSc k i b (scI i (l.getD i 0))).a (headSc k i b (scI i (l.getD i 0))).pool (matC k ((l.drop (i + 1 + hdS k)).take (cnt * rwS k)) cnt) = true
          · rw [if_pos hck] at he
            rw [he]
            refine ⟨(headSc_at _ _ _ _).1, (headSc_at _ _ _ _).2, ?_, ?_, ?_, ?_⟩
            · show (tabC k i _ cnt).length ≤ 65536
              rw [tabC_len]
              omega
            · show i < i + 1 + hdS k + cnt * rwS k
              omega
            · show i + 1 + hdS k + cnt * rwS k ≤ l.length
              omega
            · exact headSc_ok k i b hbr _ ⟨ho, ⟨Int.le_refl 0, show (0 : Int) < 256 by decide⟩, ⟨Int.le_refl 0, show (0 : Int) < 65536 by decide⟩, ⟨Int.le_refl 0, show (0 : Int) < 65536 by decide⟩⟩
          · rw [if_neg hck] at he
            rw [he] at h
            exact absurd h (by show ¬ (5 : Int) = 0; decide)
  · rw [insE_no l i hok] at h
    exact absurd h (by show ¬ (5 : Int) = 0; decide)
theorem insE_e (l : List Int) (i : Nat) : (insE l i).1 = 0 ∨ (insE l i).1 = 4 ∨ (insE l i).1 = 5 := by
  unfold insE
  dsimp only
  split
  · exact .inr (.inr rfl)
  · split
    · exact .inr (.inl rfl)
    · split
      · exact .inr (.inr rfl)
      · split
        · exact .inr (.inl rfl)
        · split
          · exact .inl rfl
          · exact .inr (.inr rfl)
theorem readL_0 (l : List Int) (h : l.length = 0) : readL l = (5, []) := by unfold readL; rw [if_pos h]
theorem readL_e (l : List Int) (h : l.length ≠ 0) (h2 : (readF l l.length 0).1 ≠ 0) : readL l = ((readF l l.length 0).1, []) := by unfold readL; rw [if_neg h, if_pos h2]
theorem readL_w (l : List Int) (h : l.length ≠ 0) (h2 : (readF l l.length 0).1 = 0) : readL l = if waysL (readF l l.length 0).2 l.length then (0, (readF l l.length 0).2) else (5, []) := by
  unfold readL
  rw [if_neg h, if_neg (fun g => g h2)]
/-- What is read behind D. -/
def goOn (D : List Ins) (r : Int × List Ins) : Int × List Ins := if r.1 ≠ 0 then (r.1, []) else (0, D ++ r.2)
theorem goOn_step (l : List Int) (D : List Ins) (f i : Nat) (hi : i < l.length) (h : (insE l i).1 = 0) : goOn D (readF l (f + 1) i) = goOn (D ++ [(insE l i).2.1]) (readF l f (insE l i).2.2) := by
  have e : readF l (f + 1) i = if (readF l f (insE l i).2.2).1 ≠ 0 then ((readF l f (insE l i).2.2).1, []) else (0, (insE l i).2.1 :: (readF l f (insE l i).2.2).2) := by
    show (if i < l.length then _ else _) = _
    rw [if_pos hi, if_neg (fun g => g h)]
  by_cases h2 : (readF l f (insE l i).2.2).1 = 0
  · rw [if_neg (fun g => g h2)] at e
    rw [e]
    unfold goOn
    rw [if_neg (fun g => g rfl), if_neg (fun g => g h2), List.append_assoc]
    rfl
  · rw [if_pos h2] at e
    rw [e]
    unfold goOn
    rw [if_pos h2, if_pos h2]
theorem goOn_err (l : List Int) (D : List Ins) (f i : Nat) (hi : i < l.length) (h : (insE l i).1 ≠ 0) : goOn D (readF l (f + 1) i) = ((insE l i).1, []) := by
  have e : readF l (f + 1) i = ((insE l i).1, []) := by
    show (if i < l.length then _ else _) = _
    rw [if_pos hi, if_pos h]
  rw [e]
  unfold goOn
  rw [if_pos h]
theorem goOn_end (l : List Int) (D : List Ins) (f i : Nat) (hi : ¬ i < l.length) : goOn D (readF l f i) = (0, D) := by
  have e : readF l f i = (0, []) := by
    cases f with
    | zero => rfl
    | succ f => show (if i < l.length then _ else _) = _; rw [if_neg hi]
  rw [e]
  unfold goOn
  rw [if_neg (fun g => g rfl), List.append_nil]
theorem goOn_nil (l : List Int) (f i : Nat) (e : Int) (L : List Ins) (h : goOn [] (readF l f i) = (e, L)) : (readF l f i).1 = e ∧ (e = 0 → (readF l f i).2 = L) := by
  unfold goOn at h
  by_cases h2 : (readF l f i).1 = 0
  · rw [if_neg (fun g => g h2)] at h
    cases h
    exact ⟨h2, fun _ => rfl⟩
  · rw [if_pos h2] at h
    cases h
    exact ⟨rfl, fun h => absurd h h2⟩
end Go.Proofs.YtolifmpkillglaaGreatDoor
