import Derived.Test.YtolifmpkillglaaGreatDoorIo
import Derived.Test.YtolifmpkillglaaGreatDoorIn
import Derived.Stop.LaidErr
import Derived.Carry
import Derived.SizedLaws
import Derived.ChangeMaps5
import Derived.Test.YtolifmpkillglaaGreatDoorTie
import Derived.Test.YtolifmpkillglaaGreatDoorIs
set_option linter.unusedVariables false
set_option maxRecDepth 100000
namespace Go.Proofs.YtolifmpkillglaaGreatDoor
open Go.RowKit
/-! works: the examples that the law asks of. -/
theorem read_lit (l : List Int) (hr : rng l) (hn : l.length ≤ 100) (e : Int) (L : List Ins) (he : (readC l).1 = e) (hL : (readC l).2 = L) (w : World) (T : TE w) :
    Calls Tryz.prog 10 #[.slice (some ⟨w.heap.size, 0, none⟩) l.length l.length] (w.alloc (.cells (BL l) 5)) fun e' w' => ∃ A' c' rs, e' = .returned (.tuple #[.slice A' L.length c', .int .i64 e]) ∧ IV w' w'.heap.size A' L.length rs L ∧ Below w.heap.size w w' := by
  refine (read_any l (w.alloc (.cells (BL l) 5)) (w.heap.size + 1) (some ⟨w.heap.size, 0, none⟩) l.length l.length (T.alloc _) (rd_litc w l hr) (Nat.le_refl _) (by omega) (by simp)).mono ?_
  rintro e' w' ⟨A', c', rs, rfl, N1, b1⟩
  subst he hL
  exact ⟨A', c', rs, rfl, N1.iv, (below_new w _).trans (b1.mono (by simp))⟩
theorem read_nil (e : Int) (L : List Ins) (he : (readC []).1 = e) (hL : (readC []).2 = L) (w : World) (T : TE w) :
    Calls Tryz.prog 10 #[.slice none 0 0] w fun e' w' => ∃ A' c' rs, e' = .returned (.tuple #[.slice A' L.length c', .int .i64 e]) ∧ IV w' w'.heap.size A' L.length rs L ∧ Below w.heap.size w w' := by
  refine (read_any [] w 0 none 0 0 T Rd.none_ (Nat.le_refl _) (by omega) (by omega)).mono ?_
  rintro e' w' ⟨A', c', rs, rfl, N1, b1⟩
  subst he hL
  exact ⟨A', c', rs, rfl, N1.iv, b1⟩
set_option maxHeartbeats 2000000 in
theorem works_any (w : World) (T : TE w) : Calls Tryz.prog 4 #[] w fun e w' => e = .returned (.bool true) ∧ Below w.heap.size w w' := by
  obtain ⟨e1, l1, p1, p2⟩ := w1_ok
  obtain ⟨e2, l2⟩ := w2_ok
  obtain ⟨e3, l3⟩ := w3_ok
  obtain ⟨e4, l4, p4⟩ := w4_ok
  obtain ⟨e5, l5⟩ := w5_ok
  have H1 := Lib.hid (fun W T => read_lit [3, 122] (by intro x hx; simp only [List.mem_cons, List.not_mem_nil, or_false] at hx; omega) (by decide) 0 _ e1 rfl W T)
  have H2 := Lib.hid (fun W T => read_lit [9] (by intro x hx; simp only [List.mem_cons, List.not_mem_nil, or_false] at hx; omega) (by decide) 5 _ e2 rfl W T)
  have H3 := Lib.hid (fun W T => read_lit [16] (by intro x hx; simp only [List.mem_cons, List.not_mem_nil, or_false] at hx; omega) (by decide) 4 _ e3 rfl W T)
  have H4 := Lib.hid (fun W T => read_lit [112, 0, 0] (by intro x hx; simp only [List.mem_cons, List.not_mem_nil, or_false] at hx; omega) (by decide) 0 _ e4 rfl W T)
  have H5 := Lib.hid (fun W T => read_nil 5 _ e5 rfl W T)
  generalize (readC [3, 122]).2 = L1 at H1 l1 p1 p2
  generalize (readC [9]).2 = L2 at H2 l2
  generalize (readC [16]).2 = L3 at H3 l3
  generalize (readC [112, 0, 0]).2 = L4 at H4 l4 p4
  generalize (readC []).2 = L5 at H5 l5
  rw [l1] at H1
  rw [l2] at H2
  rw [l3] at H3
  rw [l4] at H4
  rw [l5] at H5
  have P1 := Lib.hid p1
  have P2 := Lib.hid p2
  have P4 := Lib.hid p4
  have HT := Lib.hid T
  clear e1 e2 e3 e4 e5 l2 l3 l5 l1 l4 p1 p2 p4 T
  go_enter Tryz.func4, Tryz.ntmps4
  go_wp2_with fail
  refine (H1.out _ HT.out).mono ?_
  rintro e w1 ⟨A1, c1, r1, rfl, V1, b1⟩
  have HV1 := Lib.hid V1
  have HB := Lib.hid b1
  have HT := Lib.hid (HT.out.below' b1)
  clear V1 b1
  go_wp2_with fail
  refine (H2.out _ HT.out).mono ?_
  rintro e w2 ⟨A2, c2, r2, rfl, V2, b2⟩
  have HV1 := Lib.hid (HV1.out.below b2 (Nat.le_refl _))
  have HB := Lib.hid (HB.out.trans (b2.mono HB.out.size))
  have HT := Lib.hid (HT.out.below' b2)
  have hz2 := b2.size
  clear V2 b2
  go_wp2_with fail
  refine (H3.out _ HT.out).mono ?_
  rintro e w3 ⟨A3, c3, r3, rfl, V3, b3⟩
  have HV1 := Lib.hid (HV1.out.below b3 hz2)
  have HB := Lib.hid (HB.out.trans (b3.mono HB.out.size))
  have HT := Lib.hid (HT.out.below' b3)
  have hz3 := b3.size
  clear V3 b3
  go_wp2_with fail
  refine (H4.out _ HT.out).mono ?_
  rintro e w4 ⟨A4, c4, r4, rfl, V4, b4⟩
  have HV1 := Lib.hid (HV1.out.below b4 (by omega))
  have HV4 := Lib.hid V4
  have HB := Lib.hid (HB.out.trans (b4.mono HB.out.size))
  have HT := Lib.hid (HT.out.below' b4)
  have hz4 := b4.size
  clear V4 b4
  go_wp2_with fail
  refine (H5.out _ HT.out).mono ?_
  rintro e w5 ⟨A5, c5, r5, rfl, V5, b5⟩
  have HV1 := Lib.hid (HV1.out.below b5 (by omega))
  have HV4 := Lib.hid (HV4.out.below b5 (Nat.le_refl _))
  have HB := Lib.hid (HB.out.trans (b5.mono HB.out.size))
  clear V5 b5
  obtain ⟨b, o, rfl, _, x0, x1, _⟩ := HV1.out.ten 0 (by decide)
  obtain ⟨b', o', hbo, _, y0, _⟩ := HV1.out.ten 1 (by decide)
  cases hbo
  obtain ⟨b6, o6, rfl, _, z0, z1, z2, z3, z4, z5, z6, _⟩ := HV4.out.ten 0 (by decide)
  have q1 := (HV1.out.each 0 (by decide)).sc
  have q2 := (HV1.out.each 1 (by decide)).sc
  have q4 := (HV4.out.each 0 (by decide)).sc
  rw [q1, P1.out] at x1
  rw [q2, P2.out] at y0
  rw [q4, P4.out] at z6
  simp only [Nat.zero_mul, Nat.add_zero, Nat.one_mul] at x1 y0 z6
  clear q1 q2 q4 x0 z0 z1 z2 z3 z4 z5
  go_wp2_with fail
  go_returns
  exact ⟨rfl, HB.out⟩
end Go.Proofs.YtolifmpkillglaaGreatDoor

set_option linter.unusedVariables false
set_option maxRecDepth 100000
namespace Go.Proofs.YtolifmpkillglaaGreatDoor
open Go.ChangeShapes Go.WideShapes Go.ChangeAt Go.RowKit Go.Joins Go.Deep
/-! What the laws share: the laid tables and errForm; the door's own heap meets the condition. -/
theorem ownDoor : ownKnob Tryz.prog.godebug = none := by kernel_rfl
abbrev laidAll : List (String × DataW Unit) := [("garderobe/ops.lower", Rows.laid_garderobe_ops_lower), ("garderobe/ops.upper", Rows.laid_garderobe_ops_upper), ("garderobe/code.errForm", Rows.laid_garderobe_code_errForm)]
theorem door_met (os : Os) (args : Array Value) : laidMetH Tryz.prog laidAll ((World.doorLaid Tryz.prog 78 os).forCall (fun _ _ => 0) ⟨#[], args, []⟩).memory :=
  laidMetH_of_parts3 (fuel := 8) (laidMet_of_run' 8 (by kernel_rfl) (by kernel_rfl)) (by kernel_rfl) (by kernel_rfl)
theorem star_es : "*errors.errorString" = "*" ++ "errors.errorString" := by decide
theorem row_ptr (u : TypeId) (h : Tryz.prog.typeName? 3 u = some "*errors.errorString") : u = 139 :=
  typeName_ptr_named (nm := "errors.errorString") (by rw [← star_es]; kernel_rfl) (by kernel_rfl) (by decide) u (by rw [← star_es]; exact h)
theorem te_of_laid {W : World} (h : laidMetH Tryz.prog laidAll W) : TE W := by
  rw [MakeChecks.laidMetH_plain _ _ _ (by kernel_rfl)] at h
  obtain ⟨ps, ⟨g0, t0, cs0, f0, p0, q0, hg0, ht0, hv0, hd0, ⟨g1, t1, cs1, f1, p1, q1, hg1, ht1, hv1, hd1, ⟨g2, t2, cs2, f2, p2, q2, hg2, ht2, hv2, hd2, _, e2⟩, e1⟩, e0⟩, hnd, hrows⟩ := h
  obtain rfl := Option.some.inj ((show Tryz.prog.globalNamed "garderobe/ops.lower" = some 1 by kernel_rfl).symm.trans hg0)
  obtain rfl := Option.some.inj ((show Tryz.prog.globalNamed "garderobe/ops.upper" = some 2 by kernel_rfl).symm.trans hg1)
  obtain rfl := Option.some.inj ((show Tryz.prog.globalNamed "garderobe/code.errForm" = some 0 by kernel_rfl).symm.trans hg2)
  obtain rfl := Option.some.inj ((show (Tryz.prog.globals[1]?).map (·.type) = some 120 by kernel_rfl).symm.trans ht0)
  obtain rfl := Option.some.inj ((show (Tryz.prog.globals[2]?).map (·.type) = some 121 by kernel_rfl).symm.trans ht1)
  obtain rfl := Option.some.inj ((show (Tryz.prog.globals[0]?).map (·.type) = some 51 by kernel_rfl).symm.trans ht2)
  subst e2
  subst e1
  subst e0
  have ok2 : ∀ u v, cs2.toList = [.iface u v] → Value.okWide Tryz.prog W .any 0 u v := fun u v e => by
    have hc := World.var?_cell hg2 hv2 0
    obtain ⟨l2⟩ := cs2
    simp only at e
    subst e
    exact (hrows 0 0 (by simp [MemPlace.row])).2 u v (by simpa using hc)
  obtain ⟨a2, s2, he2, hc2, _, _, _⟩ := errorString_of_trod (tp := 139) (te := 163) (ts := 9) Tryz.underlying51 row_ptr Tryz.underlying139 Tryz.underlying163 rfl rfl Tryz.underlying9 (by kernel_rfl) (by kernel_rfl) hd2 ok2
  rw [lowD] at hd0
  rw [upD] at hd1
  have c0 := open_fams Tryz.underlying120 lowL hd0
  have c1 := open_fams Tryz.underlying121 upL hd1
  have w0 := World.var?_cell hg0 hv0
  have w1 := World.var?_cell hg1 hv1
  have w2 := World.var?_cell hg2 hv2
  have a0 : ∀ i, i < 19 → ∀ j, j < 7 → W.cell? ⟨1, i * 7 + j, none⟩ = ((lowF.getD i Fam.zero).vals)[j]? := fun i hi j hj => by
    rw [w0, ← c0 i hi j hj]; simp
  have a1 : ∀ i, i < 21 → ∀ j, j < 7 → W.cell? ⟨2, i * 7 + j, none⟩ = ((upF.getD i Fam.zero).vals)[j]? := fun i hi j hj => by
    rw [w1, ← c1 i hi j hj]; simp
  have hlt : 2 < W.heap.size := World.block_lt_of_cell? W ⟨2, 0 * 7 + 0, none⟩ (a1 0 (by decide) 0 (by decide))
  refine ⟨⟨⟨lowL, fun _ _ => trivial, fun _ => ⟨1, 0, rfl, by decide, fun i hi j hj => ?_⟩⟩, ⟨upL, fun _ _ => trivial, fun _ => ⟨2, 0, rfl, by decide, fun i hi j hj => ?_⟩⟩, hlt⟩, a2, ?_⟩
  · rw [Nat.zero_add]; exact a0 i hi j hj
  · rw [Nat.zero_add]; exact a1 i hi j hj
  · have := w2 0
    obtain ⟨l2⟩ := cs2
    simp only at he2
    subst he2
    exact this
end Go.Proofs.YtolifmpkillglaaGreatDoor

set_option linter.unusedVariables false
set_option maxRecDepth 100000
namespace Go.Proofs.YtolifmpkillglaaGreatDoor
open Go.RowKit
/-! Cuts and joins, as lists. -/
theorem readF_at (l : List Int) (hr : rng l) : ∀ (f i : Nat) (M : List Ins), readF l f i = (0, M) → ∀ x ∈ M, ∃ a : Nat, x.sc.at_ = a ∧ i ≤ a ∧ a < l.length := by
  intro f
  induction f with
  | zero =>
    intro i M h x hx
    have : M = [] := (congrArg Prod.snd h).symm
    subst this
    cases hx
  | succ f ih =>
    intro i M h x hx
    by_cases hi : i < l.length
    · obtain ⟨he, M', hM, rfl⟩ := readF_cons l f i M hi h
      have ok := insE_ok l i hr hi he
      rcases List.mem_cons.1 hx with rfl | hx
      · exact ⟨i, ok.1, Nat.le_refl _, hi⟩
      · obtain ⟨a, h1, h2, h3⟩ := ih _ M' hM x hx
        exact ⟨a, h1, by omega, h3⟩
    · have e : readF l (f + 1) i = (0, []) := by unfold readF; rw [if_neg hi]
      rw [e] at h
      have : M = [] := (congrArg Prod.snd h).symm
      subst this
      cases hx
theorem atL_behind (p : Int) (x : Ins) (R : List Ins) (hx : x.sc.at_ = p) : ∀ (M : List Ins) (i : Nat), (∀ y ∈ M, y.sc.at_ ≠ p) → atL (M ++ x :: R) i p = ((i + M.length : Nat) : Int) := by
  intro M
  induction M with
  | nil => intro i _; show atL (x :: R) i p = _; unfold atL; rw [if_pos hx]; rfl
  | cons y M ih =>
    intro i h
    show atL (y :: (M ++ x :: R)) i p = _
    unfold atL
    rw [if_neg (h y (List.mem_cons_self ..)), ih (i + 1) (fun z hz => h z (List.mem_cons_of_mem _ hz)), List.length_cons]
    congr 1
    omega
theorem cuts_list (l : List Int) (hr : rng l) (m : Nat) (hm : m < l.length) (h1 : (readC l).1 = 0) (h2 : (readC (l.take m)).1 = 0) :
    (readC l).2.take (readC (l.take m)).2.length = (readC (l.take m)).2 ∧ (readC (l.take m)).2.length < (readC l).2.length ∧ atL (readC l).2 0 m = ((readC (l.take m)).2.length : Int) := by
  obtain ⟨_, _, hF, _⟩ := readC_inv l h1
  obtain ⟨_, _, hG, _⟩ := readC_inv _ h2
  generalize (readC l).2 = L at hF
  generalize (readC (l.take m)).2 = M at hG
  have hal : (l.take m).length = m := by rw [List.length_take]; omega
  have hra : rng (l.take m) := rng_take hr m
  have hll : l.take m ++ l.drop m = l := List.take_append_drop m l
  have hdl : (l.drop m).length = l.length - m := List.length_drop
  have hA := readF_app (l.take m) (l.drop m) hra (by rw [hll]; exact hr) (l.take m).length 0 l.length M [] (Nat.zero_le _) (by omega) (by omega) hG
  rw [hll, hF, hal] at hA
  have e0 : goOn [] ((0 : Int), L) = (0, L) := by unfold goOn; rw [if_neg (fun g => g rfl)]; rfl
  rw [e0, List.nil_append] at hA
  have hr2 : (readF l l.length m).1 = 0 := by
    by_cases h : (readF l l.length m).1 = 0
    · exact h
    · unfold goOn at hA
      rw [if_pos h] at hA
      exact absurd (congrArg Prod.fst hA).symm h
  have hL : L = M ++ (readF l l.length m).2 := by
    unfold goOn at hA
    rw [if_neg (fun g => g hr2)] at hA
    exact congrArg Prod.snd hA
  obtain ⟨f, hf⟩ : ∃ f, l.length = f + 1 := ⟨l.length - 1, by omega⟩
  have hr3 : readF l (f + 1) m = (0, (readF l l.length m).2) := by rw [← hf]; exact Prod.ext hr2 rfl
  obtain ⟨he, M', _, hM'⟩ := readF_cons l f m _ hm hr3
  have ok := insE_ok l m hr hm he
  rw [hM'] at hL
  have hat := readF_at (l.take m) hra _ _ M hG
  refine ⟨?_, ?_, ?_⟩
  · rw [hL, List.take_left]
  · rw [hL, List.length_append, List.length_cons]; omega
  · rw [hL, atL_behind (m : Int) _ M' ok.1 M 0 (fun y hy => by obtain ⟨a, h3, _, h5⟩ := hat y hy; rw [h3]; omega), Nat.zero_add]
theorem leadL_sh (d : Int) (x : Ins) : leadL (sh d x) = (leadL x).map (· + d) := by
  unfold leadL
  have e : (sh d x).sc.op = x.sc.op := rfl
  rw [e]
  by_cases h : jmpO x.sc.op = true
  · rw [if_pos h, if_pos h]
    show (if jmpO x.sc.op then x.sc.jump + d else x.sc.jump) :: x.tab.map (· + d) = _
    rw [if_pos h]
    rfl
  · rw [if_neg h, if_neg h]
    rfl
theorem joins_list (a b : List Int) (ha : rng a) (hb : rng b) (h1 : (readC a).1 = 0) (h2 : (readC b).1 = 0) (hn : a.length + b.length ≤ 2000) :
    readC (a ++ b) = (0, (readC a).2 ++ (readC b).2.map (sh a.length)) := by
  obtain ⟨_, a0, hF, wa⟩ := readC_inv a h1
  obtain ⟨_, b0, hG, wb⟩ := readC_inv b h2
  generalize (readC a).2 = L at hF wa ⊢
  generalize (readC b).2 = M at hG wb ⊢
  have hl : (a ++ b).length = a.length + b.length := List.length_append
  have hab : rng (a ++ b) := rng_app ha hb
  have hA := readF_app a b ha hab a.length 0 (a ++ b).length L [] (Nat.zero_le _) (by omega) (by omega) hF
  have hS := readF_sh a b hb b.length 0 M (by omega) hG
  rw [Nat.add_zero] at hS
  rw [readF_fuel (a ++ b) hab (a ++ b).length b.length a.length (by omega) (by omega), hS, List.nil_append] at hA
  have e : goOn L ((0 : Int), M.map (sh a.length)) = (0, L ++ M.map (sh a.length)) := by unfold goOn; rw [if_neg (fun g => g rfl)]
  rw [e] at hA
  obtain ⟨q1, q2⟩ := goOn_nil (a ++ b) (a ++ b).length 0 0 _ hA
  refine readC_mk (a ++ b) _ (by omega) (by omega) (Prod.ext q1 (q2 rfl)) ?_
  unfold waysL at wa wb ⊢
  rw [List.all_append, Bool.and_eq_true]
  constructor
  · rw [List.all_eq_true] at wa ⊢
    intro x hx
    have h3 := wa x hx
    rw [List.all_eq_true] at h3 ⊢
    intro p hp
    have h4 := h3 p hp
    unfold goodP at h4 ⊢
    simp only [Bool.and_eq_true, decide_eq_true_eq] at h4 ⊢
    obtain ⟨⟨h5, h6⟩, h7⟩ := h4
    refine ⟨⟨h5, by omega⟩, ?_⟩
    rw [List.any_append, h7]
    rfl
  · rw [List.all_map, List.all_eq_true]
    rw [List.all_eq_true] at wb
    intro x hx
    have h3 := wb x hx
    simp only [Function.comp]
    rw [leadL_sh, List.all_map, List.all_eq_true]
    rw [List.all_eq_true] at h3
    intro p hp
    have h4 := h3 p hp
    simp only [Function.comp]
    unfold goodP at h4 ⊢
    simp only [Bool.and_eq_true, decide_eq_true_eq] at h4 ⊢
    obtain ⟨⟨h5, h6⟩, h7⟩ := h4
    refine ⟨⟨by omega, by omega⟩, ?_⟩
    rw [List.any_append, List.any_map]
    have h8 : (M.any ((fun y => y.sc.at_ == p + (a.length : Int)) ∘ sh (a.length : Int))) = true := by
      rw [List.any_eq_true] at h7 ⊢
      obtain ⟨y, hy, he⟩ := h7
      refine ⟨y, hy, ?_⟩
      simp only [Function.comp]
      have h9 : y.sc.at_ = p := by simpa using he
      show (y.sc.at_ + (a.length : Int) == p + (a.length : Int)) = true
      rw [h9]
      simp
    rw [h8, Bool.or_true]
end Go.Proofs.YtolifmpkillglaaGreatDoor


set_option linter.unusedVariables false
set_option maxRecDepth 100000
namespace Go.Proofs.YtolifmpkillglaaGreatDoor
open Go.ChangeShapes Go.WideShapes Go.ChangeAt Go.RowKit
/-! Arguments that are bytes; parts of rows of instructions. -/
theorem laidOut : laidOutB Tryz.prog = true := by kernel_rfl
theorem cellsU : Tryz.prog.cellsOf 5 = 1 := by kernel_rfl
theorem bytesU : Tryz.prog.bytesOf 5 = 1 := by kernel_rfl
def Dat {H : Type} (d : DataW H) (n c : Nat) : Prop := (d = .nil ∧ n = 0) ∨ ∃ e s, d = .slice e s ∧ e.length + s.length = c
theorem arg_bytes {H : Type} {enc : TypeId × Value → H} {W : World} {base : Nat} {v : Value} {d : DataW H} {p : List MemPlace}
    (hval : Value.okWide Tryz.prog W .any base 30 v) (h0 : DataW.Trod enc Tryz.prog W 0 (fun _ => true) true 30 v d p) :
    ∃ A n c l, v = .slice A n c ∧ n ≤ c ∧ Rd W W.heap.size A n l ∧ Dat d n c := by
  obtain ⟨A, n, c, rfl⟩ := okWide_slice Tryz.underlying30 hval
  obtain ⟨fuel, hf⟩ := h0
  rcases open_ints Tryz.underlying30 Tryz.underlying5 cellsU hf with ⟨hcs, hx⟩ | ⟨a, n', c', zs, hcs, _, hl, hm, hz, hx, hcell, hwz⟩
  · simp [Value.cells] at hcs
    obtain ⟨rfl, rfl, rfl⟩ := hcs
    simp only [Prod.mk.injEq] at hx
    obtain ⟨rfl, rfl⟩ := hx
    exact ⟨none, 0, 0, [], rfl, Nat.le_refl _, Rd.none_, .inl ⟨rfl, rfl⟩⟩
  · simp [Value.cells] at hcs
    obtain ⟨rfl, rfl, rfl⟩ := hcs
    simp only [Prod.mk.injEq] at hx
    obtain ⟨rfl, rfl⟩ := hx
    simp only [if_true] at hz
    have hrz : rng zs := by
      intro x hx
      have := hwz x hx
      simp [Lit.wf, IntKind.min, IntKind.max, IntKind.signed, IntKind.bits] at this
      omega
    refine ⟨some a, n, c, zs.take n, rfl, hl, ⟨by rw [List.length_take]; omega, rng_take hrz n, fun hn => ?_⟩, .inr ⟨_, _, rfl, by simp [lits]; omega⟩⟩
    obtain ⟨b, off, spot⟩ := a
    have hspot : spot = none := by simpa [Addr.add] using World.cell?_spot (hcell 0 (by omega))
    subst hspot
    refine ⟨b, off, rfl, ?_, fun i hi => ?_⟩
    · have h1 := hcell 0 (by omega)
      exact World.block_lt_of_cell? W ⟨b, off, none⟩ (by simpa [Addr.add] using h1)
    · have := hcell i (by omega)
      rw [Addr.add_lit] at this
      rw [this]
      congr 2
      rw [List.getD_eq_getElem?_getD, List.getD_eq_getElem?_getD, List.getElem?_take, if_pos hi]
theorem fits {H : Type} {ts : List TypeId} {ds : List (DataW H)} (h : (DataW.weightsEach Tryz.prog ts ds).all (· ≤ reachBytes) = true) (j : Nat) {d : DataW H} {n c : Nat} (ht : ts[j]? = some 30) (hd : ds[j]? = some d) (hD : Dat d n c) (hn : n ≤ c) : n ≤ 140737488355328 := by
  rcases hD with ⟨rfl, rfl⟩ | ⟨e, s, rfl, hl⟩
  · omega
  · have := sized_slice h ht hd Tryz.underlying30
    rw [bytesU, hl] at this
    unfold reachBytes at this
    omega
theorem getD_take (l : List Ins) (k i : Nat) (h : i < k) : (l.take k).getD i Ins.zero = l.getD i Ins.zero := by
  rw [List.getD_eq_getElem?_getD, List.getD_eq_getElem?_getD, List.getElem?_take, if_pos h]
theorem getDr_take (l : List RI) (k i : Nat) (h : i < k) : (l.take k).getD i RI.zero = l.getD i RI.zero := by
  rw [List.getD_eq_getElem?_getD, List.getD_eq_getElem?_getD, List.getElem?_take, if_pos h]
theorem IV.take {w : World} {B n k : Nat} {A : Option Addr} {rs : List RI} {l : List Ins} (h : IV w B A n rs l) (hk : k ≤ n) : IV w B A k (rs.take k) (l.take k) := by
  refine ⟨⟨by rw [List.length_take, h.rv.len]; omega, allok_take h.rv.rg k, fun hp => ?_⟩, by rw [List.length_take, h.len]; omega, fun i hi => ?_⟩
  · obtain ⟨b, o, e, hb, hc⟩ := h.rv.2.2 (by omega)
    refine ⟨b, o, e, hb, fun i hi j hj => ?_⟩
    have e2 : (rs.take k).getD i riR.d = rs.getD i riR.d := getDr_take rs k i hi
    rw [e2]
    exact hc i (by omega) j hj
  · rw [getD_take l k i hi, getDr_take rs k i hi]
    exact h.each i (by omega)
theorem addr_0 (A : Option Addr) (k s : Nat) : sliced A 0 k k s = .slice A k k := by
  unfold sliced
  have e : A.map (·.add (0 * s)) = A := by
    cases A with
    | none => rfl
    | some a => simp [Addr.add]
  rw [e]
  simp
theorem run_cutI (w : World) (A : Option Addr) (n c k : Nat) (h : k ≤ c) : (Instr.slice 22 (.slice A n c) none (some (.int .i64 (k : Int))) (some (.int .i64 (k : Int)))).run Tryz.prog w = .ok (.slice A k k) w := by
  have ht := Tryz.underlying22
  have he : Tryz.prog.elem 22 = 28 := by simp [Program.elem, ht]
  have ht' : Tryz.prog.underlying 22 = some (.slice (Tryz.prog.elem 22)) := by rw [he]; exact ht
  obtain ⟨i0, hi, hs⟩ : ∃ i, Tryz.prog.info? 28 = some i ∧ i.size = 10 := by
    have := inst_sz
    cases hq : Tryz.prog.info? 28 with
    | none => rw [hq] at this; cases this
    | some i => rw [hq] at this; exact ⟨i, rfl, by simpa using this⟩
  rw [run_slice_hm w 22 A n c ht' .i64 .i64 (k : Int) (k : Int) (by omega) (by omega) (by omega), he]
  simp only [sizeOf, typeInfo, Sem.run_bind, Sem.run_pure, Int.toNat_natCast]
  simp [hi, addr_0]
theorem run_cutB (w : World) (A : Option Addr) (n c k : Nat) (h : k ≤ c) : (Instr.slice 30 (.slice A n c) none (some (.int .i64 (k : Int))) (some (.int .i64 (k : Int)))).run Tryz.prog w = .ok (.slice A k k) w := by
  have ht := Tryz.underlying30
  obtain ⟨i0, hi, hz0, hz1, hz2⟩ := info_parts u8_info
  have he : Tryz.prog.elem 30 = 5 := by simp [Program.elem, ht]
  have ht' : Tryz.prog.underlying 30 = some (.slice (Tryz.prog.elem 30)) := by rw [he]; exact ht
  rw [run_slice_hm w 30 A n c ht' .i64 .i64 (k : Int) (k : Int) (by omega) (by omega) (by omega), he]
  simp [sizeOf, typeInfo, hi, addr_0]
theorem u16_nat {a : Int} (h : (Lit.int .u16 a).wf = true) : ∃ n : Nat, a = n ∧ n < 65536 := by
  have : 0 ≤ a ∧ a ≤ 65535 := by simpa [Lit.wf, IntKind.min, IntKind.max, IntKind.signed, IntKind.bits] using h
  exact ⟨a.toNat, by omega, by omega⟩
theorem i64_bd {a : Int} (h : (Lit.int .i64 a).wf = true) : -9223372036854775808 ≤ a ∧ a < 9223372036854775808 := by
  have : -9223372036854775808 ≤ a ∧ a ≤ 9223372036854775807 := by simpa [Lit.wf, IntKind.min, IntKind.max, IntKind.signed, IntKind.bits] using h
  omega
end Go.Proofs.YtolifmpkillglaaGreatDoor

