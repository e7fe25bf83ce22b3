import Derived.Test.YtolifmpkillglaaDoorHj
import Derived.Test.YtolifmpkillglaaDoorGj
import Derived.Test.YtolifmpkillglaaDoorIl
import Derived.Test.YtolifmpkillglaaDoorIn
import Derived.Deep.CutRange
import Derived.Deep.DeepCutAuto
import Derived.Deep.RegionLaw
import Derived.Test.YtolifmpkillglaaDoorIh
set_option linter.unusedVariables false
set_option maxRecDepth 100000
namespace Go.Proofs.YtolifmpkillglaaDoor
open Go.RowKit
/-! The document's Read: what it needs. -/
theorem ofd_eq : ∀ n : Nat, n < 256 → ofC (n : Int) = ofD n := by decide +kernel
theorem refofC_any (o : Int) (h0 : 0 ≤ o) (h1 : o < 256) : OfSaid 21 o (ofC o) := by
  obtain ⟨n, rfl⟩ : ∃ n : Nat, o = n := ⟨o.toNat, by omega⟩
  rw [ofd_eq n (by omega)]
  exact refof_any n (by omega)
theorem OV.keepB {α : Type} {R : Rec α} {e : TypeId} {w w' : World} {S : Nat → Prop} {A : Option Addr} {n c m : Nat} {l : List α} (h : OV R e w S A n c l) (hS : ∀ k, k < m → S k) (hk : ∀ k, m ≤ k → k < w.heap.size → w'.heap[k]? = w.heap[k]?) : OV R e w' S A n c l :=
  h.keep fun g hg hlt _ => hk g (Nat.le_of_not_lt fun h => hg (hS g h)) hlt
theorem InsN.keepB {w w' : World} {m : Nat} {A : Option Addr} {r : RI} {x : Ins} (h : InsN w (Off A m) r x) (hk : ∀ k, m ≤ k → k < w.heap.size → w'.heap[k]? = w.heap[k]?) : InsN w' (Off A m) r x :=
  ⟨h.sc, h.tab.keepB (fun _ h => .inl h) hk, h.mat.keepB (fun _ h => .inl h) hk⟩
theorem IN.keepB {w w' : World} {m n c : Nat} {A : Option Addr} {rs : List RI} {l : List Ins} (h : IN w m A n c rs l) (hk : ∀ k, m ≤ k → k < w.heap.size → w'.heap[k]? = w.heap[k]?) : IN w' m A n c rs l :=
  ⟨h.rv.keepB (fun _ h => h) hk, h.len, fun i hi => (h.each i hi).keepB hk⟩
theorem IN.lessM {w : World} {m m' n c : Nat} {A : Option Addr} {rs : List RI} {l : List Ins} (h : IN w m A n c rs l) (hm : m' ≤ m) : IN w m' A n c rs l :=
  ⟨h.rv.less (fun k hk => Nat.lt_of_lt_of_le hk hm), h.len, fun i hi => (h.each i hi).lessS (fun k hk => by
    rcases hk with hk | hk
    · exact .inl (Nat.lt_of_lt_of_le hk hm)
    · exact .inr hk)⟩
def posOf (w : World) (g : Nat) : Nat := match w.cell? ⟨g, 1, none⟩ with
  | some v => (intOf v).toNat
  | none => 0
theorem posOf_tk {w : World} {g n c i : Nat} {A : Option Addr} {s : Bool} (X : TK w g A n c i s) : posOf w g = i := by
  unfold posOf
  rw [show w.cell? ⟨g, 1, none⟩ = some (.int .i64 i) from X.cell 1]
  rfl
theorem rd_byte {w : World} {B n : Nat} {A : Option Addr} {l : List Int} (h : Rd w B A n l) (i : Nat) (hi : i < n) : ∃ b off, A = some ⟨b, off, none⟩ ∧ b < B ∧ w.cell? ⟨b, off + i, none⟩ = some (.int .u8 (l.getD i 0)) := by
  obtain ⟨b, off, e, hb, hc⟩ := h.2.2 (by omega)
  exact ⟨b, off, e, hb, hc i hi⟩
theorem atL_any (p : Int) : ∀ (D : List Ins) (i : Nat), decide (0 ≤ atL D i p) = D.any fun x => x.sc.at_ == p
  | [], i => rfl
  | x :: D, i => by
    unfold atL
    rw [List.any_cons]
    by_cases h : x.sc.at_ = p
    · rw [if_pos h, decide_eq_true (by omega), show (x.sc.at_ == p) = true by simpa using h, Bool.true_or]
    · rw [if_neg h, atL_any p D (i + 1), show (x.sc.at_ == p) = false by simpa using h, Bool.false_or]
theorem goodP_at (D : List Ins) (n : Nat) (hF : Fine n D) (p : Int) : goodP D n p = decide (0 ≤ atL D 0 p) := by
  unfold goodP
  rw [atL_any p D 0]
  cases h : D.any fun x => x.sc.at_ == p
  · rw [Bool.and_false]
  · obtain ⟨x, hx, he⟩ := List.any_eq_true.1 h
    obtain ⟨j, hj, rfl⟩ := List.getElem_of_mem hx
    obtain ⟨⟨a, ha, hb⟩, _⟩ := hF j hj
    have e1 : D.getD j Ins.zero = D[j] := by rw [List.getD_eq_getElem?_getD, List.getElem?_eq_getElem hj]; rfl
    rw [e1] at ha
    have e2 : D[j].sc.at_ = p := by simpa using he
    rw [decide_eq_true (show 0 ≤ p by omega), decide_eq_true (show p < (n : Int) by omega)]
    rfl
/-! The document's Leads. -/
theorem jmp_imm : ∀ n : Nat, n < 256 → (ofC (n : Int)).1.imm = (((ofC (n : Int)).1.imm).toNat : Int) ∧ (ofC (n : Int)).1.jumps = ((ofC (n : Int)).1.imm == 5 || (ofC (n : Int)).1.imm == 6 || (ofC (n : Int)).1.imm == 7) := by decide +kernel
set_option maxHeartbeats 2000000 in
theorem refleads_any (x : Ins) (r : RI) (w : World) (B : Nat) (T : Tab w) (h : InsR w B r x) (hB : B ≤ w.heap.size) (o0 : 0 ≤ x.sc.op) (o1 : x.sc.op < 256) (hn : r.tn ≤ 70000) :
    Calls Tryd.prog 23 #[r.val] w fun e w' => ∃ A' c', e = .returned (.slice A' (leadL x).length c') ∧ OV inR 3 w' (Lt w.heap.size) A' (leadL x).length c' (leadL x) ∧ Below w.heap.size w w' := by
  obtain ⟨hsc, ht, hm, hle, hle2⟩ := h
  obtain ⟨⟨s0, s1, s2, s3, s4, s5, s6, s7⟩, tA, tn, tc, mA, mn, mc⟩ := r
  obtain ⟨sc, tab, mat⟩ := x
  simp only at hsc
  subst hsc
  unfold leadL jmpO RI.val
  simp only at ht hm hle hn o0 o1 ⊢
  have hl := ht.len
  have HO := Lib.hid (refofC_any s1 o0 o1)
  obtain ⟨on, hon⟩ : ∃ on : Nat, s1 = on := ⟨s1.toNat, by omega⟩
  have hki := jmp_imm on (by omega)
  rw [← hon] at hki
  rcases hof : ofC s1 with ⟨⟨x0, x1, x2, x3, x4, x5, x6⟩, er⟩
  rw [hof] at HO hki
  unfold OfSaid at HO
  simp only [Inf.val] at HO
  simp only at hki ⊢
  obtain ⟨k, hk⟩ : ∃ k : Nat, x2.toNat = k := ⟨_, rfl⟩
  rw [hk] at hki
  obtain ⟨hx2, hj⟩ := hki
  subst hx2
  clear hof hon hk hm hle2
  have HTA := Lib.hid ht
  have HT := Lib.hid (T.alloc (.cells #[.int .i64 s0, .int .u8 s1, .int .i64 s2, .int .u8 s3, .int .u16 s4, .int .i64 s5, .int .i64 s6, .slice tA tn tc, .slice mA mn mc, .int .u16 s7] 40))
  have HY := Lib.hid (Blk.new w #[.int .i64 s0, .int .u8 s1, .int .i64 s2, .int .u8 s3, .int .u16 s4, .int .i64 s5, .int .i64 s6, .slice tA tn tc, .slice mA mn mc, .int .u16 s7] 40)
  have HK := Lib.hid (below_new w (.cells #[.int .i64 s0, .int .u8 s1, .int .i64 s2, .int .u8 s3, .int .u16 s4, .int .i64 s5, .int .i64 s6, .slice tA tn tc, .slice mA mn mc, .int .u16 s7] 40))
  have hsz : (w.alloc (.cells #[.int .i64 s0, .int .u8 s1, .int .i64 s2, .int .u8 s3, .int .u16 s4, .int .i64 s5, .int .i64 s6, .slice tA tn tc, .slice mA mn mc, .int .u16 s7] 40)).heap.size = w.heap.size + 1 := by simp
  clear T ht
  have hb : (x5 = true ∧ (((k : Int) == 5) = true ∨ (((k : Int) == 5) = false ∧ ((k : Int) == 6) = true) ∨ (((k : Int) == 5) = false ∧ ((k : Int) == 6) = false ∧ ((k : Int) == 7) = true))) ∨ (x5 = false ∧ ((k : Int) == 5) = false ∧ ((k : Int) == 6) = false ∧ ((k : Int) == 7) = false) := by
    rw [hj]
    cases ((k : Int) == 5) <;> cases ((k : Int) == 6) <;> cases ((k : Int) == 7) <;> simp
  have HB := Lib.hid hb
  have HLT := Lib.hid hl
  generalize hLL : (if x5 = true then s6 :: tab else []) = L
  have HLL := Lib.hid hLL
  clear hj hb hl hLL
  go_enter Tryd.func23, Tryd.ntmps23
  go_upto_region 1 with (fail)
  generalize w.alloc (.cells #[.int .i64 s0, .int .u8 s1, .int .i64 s2, .int .u8 s3, .int .u16 s4, .int .i64 s5, .int .i64 s6, .slice tA tn tc, .slice mA mn mc, .int .u16 s7] 40) = w1 at HT HY HK hsz ⊢
  have y1 : w1.cell? ⟨w.heap.size, 1, none⟩ = some (.int .u8 s1) := HY.out.cell 1
  go_wp2_with fail
  refine (HO.out _ HT.out).mono ?_
  rintro e w2 ⟨rfl, b2⟩
  have hz2 := b2.size
  have HY := Lib.hid ((HY.out.below b2).alloc (.cells #[.int .u8 x0, .string ⟨x1.toArray⟩, .int .u8 k, .int .i64 x3, .int .i64 x4, .bool x5, .bool x6] 56))
  have HK := Lib.hid ((HK.out.trans (b2.mono (by omega))).alloc (by omega) (.cells #[.int .u8 x0, .string ⟨x1.toArray⟩, .int .u8 k, .int .i64 x3, .int .i64 x4, .bool x5, .bool x6] 56))
  have HI := Lib.hid (Blk.new w2 #[.int .u8 x0, .string ⟨x1.toArray⟩, .int .u8 k, .int .i64 x3, .int .i64 x4, .bool x5, .bool x6] 56)
  clear b2 y1 HT
  go_upto_region 2 with (fail)
  generalize w2.alloc (.cells #[.int .u8 x0, .string ⟨x1.toArray⟩, .int .u8 k, .int .i64 x3, .int .i64 x4, .bool x5, .bool x6] 56) = w3 at HY HK HI ⊢
  have q2 : w3.cell? ⟨w2.heap.size, 2, none⟩ = some (.int .u8 k) := HI.out.cell 2
  have y6 : w3.cell? ⟨w.heap.size, 6, none⟩ = some (.int .i64 s6) := HY.out.cell 6
  have hzk := HK.out.size
  have HR1 := Lib.hid (rv_int w3 s6)
  have HRT := Lib.hid (HTA.out.below HK.out hB)
  rcases HB.out with ⟨rfl, hk⟩ | ⟨rfl, e5, e6, e7⟩
  · have h := HLL.out
    rw [if_pos rfl] at h
    have hlen : L.length = 1 + tn := by rw [← h, List.length_cons, HLT.out]; omega
    have HLN := Lib.hid hlen
    have HLE := Lib.hid h
    clear hlen h HLL
    rcases hk with e5 | ⟨e5, e6⟩ | ⟨e5, e6, e7⟩
    all_goals
      go_upto_region 4 with (fail)
      go_upto_region 5 with (at_builtin; refine wpList_appV inFit rfl _ _ rfl (Lt (w.heap.size + 1)) none 0 0 [] rfl OV.nil_ _ _ 1 1 [s6] rfl HR1.out 1 rfl [s6] rfl (by omega) (fun q hq => by have : q < w.heap.size + 1 := hq; simp; omega) ?_; intro A5 c5 w5 ho5 hb5)
      have HO5 := Lib.hid ho5
      have HB5 := Lib.hid ((HK.out.alloc hzk (.cells #[.int .i64 s6] 3)).trans (hb5.below fun q hq => Nat.lt_succ_of_lt hq))
      have y7 : w5.cell? ⟨w.heap.size, 7, none⟩ = some (.slice tA tn tc) := (hb5.cell (p := ⟨w.heap.size, 7, none⟩) (Nat.lt_succ_self _)).trans ((HY.out.alloc (.cells #[.int .i64 s6] 3)).cell 7)
      have hz5 : w.heap.size + 1 ≤ w5.heap.size := by have := hb5.size; simp at this; omega
      clear ho5 hb5
      go_wp2_with (at_builtin; refine wpList_appV inFit rfl _ _ rfl (Lt (w.heap.size + 1)) A5 1 c5 [s6] rfl HO5.out B tA tn tc tab rfl (HTA.out.below HB5.out hB) L.length HLN.out L HLE.out.symm (by omega) (fun q hq => Nat.lt_of_lt_of_le hq hz5) ?_; intro A6 c6 w6 ho6 hb6)
      go_returns
      exact ⟨A6, c6, rfl, ho6.less (fun q hq => Nat.lt_succ_of_lt hq), HB5.out.trans (hb6.below fun q hq => Nat.lt_succ_of_lt hq)⟩
  · have h := HLL.out
    rw [if_neg (by decide)] at h
    clear HLL
    subst h
    go_wp2_with fail
    go_returns
    exact ⟨none, 0, rfl, OV.nil_, HK.out⟩
end Go.Proofs.YtolifmpkillglaaDoor
