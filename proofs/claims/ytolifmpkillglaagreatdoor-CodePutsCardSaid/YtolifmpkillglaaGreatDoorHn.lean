import Derived.Test.YtolifmpkillglaaGreatDoorHj
import Derived.Test.YtolifmpkillglaaGreatDoorGj
import Derived.Test.YtolifmpkillglaaGreatDoorIl
import Derived.Test.YtolifmpkillglaaGreatDoorIn
import Derived.Deep.CutRange
import Derived.Deep.DeepCutAuto
import Derived.Deep.RegionLaw
import Derived.Test.YtolifmpkillglaaGreatDoorIh
import Derived.Deep.CutBlock
set_option linter.unusedVariables false
set_option maxRecDepth 100000
namespace Go.Proofs.YtolifmpkillglaaGreatDoor
open Go.RowKit
/-! The document's Read: what it needs. -/
theorem ofd_eq : ∀ n : Nat, n < 256 → ofC (n : Int) = ofD n := by decide +kernel
theorem refofC_any (o : Int) (h0 : 0 ≤ o) (h1 : o < 256) : OfSaid 28 o (ofC o) := by
  obtain ⟨n, rfl⟩ : ∃ n : Nat, o = n := ⟨o.toNat, by omega⟩
  rw [ofd_eq n (by omega)]
  exact refof_any n (by omega)
theorem OV.keepB {α : Type} {R : Rec α} {e : TypeId} {w w' : World} {S : Nat → Prop} {A : Option Addr} {n c m : Nat} {l : List α} (h : OV R e w S A n c l) (hS : ∀ k, k < m → S k) (hk : ∀ k, m ≤ k → k < w.heap.size → w'.heap[k]? = w.heap[k]?) : OV R e w' S A n c l :=
  h.keep fun g hg hlt _ => hk g (Nat.le_of_not_lt fun h => hg (hS g h)) hlt
theorem InsN.keepB {w w' : World} {m : Nat} {A : Option Addr} {r : RI} {x : Ins} (h : InsN w (Off A m) r x) (hk : ∀ k, m ≤ k → k < w.heap.size → w'.heap[k]? = w.heap[k]?) : InsN w' (Off A m) r x :=
  ⟨h.sc, h.tab.keepB (fun _ h => .inl h) hk, h.mat.keepB (fun _ h => .inl h) hk⟩
theorem IN.keepB {w w' : World} {m n c : Nat} {A : Option Addr} {rs : List RI} {l : List Ins} (h : IN w m A n c rs l) (hk : ∀ k, m ≤ k → k < w.heap.size → w'.heap[k]? = w.heap[k]?) : IN w' m A n c rs l :=
  ⟨h.rv.keepB (fun _ h => h) hk, h.len, fun i hi => (h.each i hi).keepB hk⟩
theorem IN.lessM {w : World} {m m' n c : Nat} {A : Option Addr} {rs : List RI} {l : List Ins} (h : IN w m A n c rs l) (hm : m' ≤ m) : IN w m' A n c rs l :=
  ⟨h.rv.less (fun k hk => Nat.lt_of_lt_of_le hk hm), h.len, fun i hi => (h.each i hi).lessS (fun k hk => by
    rcases hk with hk | hk
    · exact .inl (Nat.lt_of_lt_of_le hk hm)
    · exact .inr hk)⟩
def posOf (w : World) (g : Nat) : Nat := match w.cell? ⟨g, 1, none⟩ with
  | some v => (intOf v).toNat
  | none => 0
theorem posOf_tk {w : World} {g n c i : Nat} {A : Option Addr} {s : Bool} (X : TK w g A n c i s) : posOf w g = i := by
  unfold posOf
  rw [show w.cell? ⟨g, 1, none⟩ = some (.int .i64 i) from X.cell 1]
  rfl
theorem rd_byte {w : World} {B n : Nat} {A : Option Addr} {l : List Int} (h : Rd w B A n l) (i : Nat) (hi : i < n) : ∃ b off, A = some ⟨b, off, none⟩ ∧ b < B ∧ w.cell? ⟨b, off + i, none⟩ = some (.int .u8 (l.getD i 0)) := by
  obtain ⟨b, off, e, hb, hc⟩ := h.2.2 (by omega)
  exact ⟨b, off, e, hb, hc i hi⟩
theorem atL_any (p : Int) : ∀ (D : List Ins) (i : Nat), decide (0 ≤ atL D i p) = D.any fun x => x.sc.at_ == p
  | [], i => rfl
  | x :: D, i => by
    unfold atL
    rw [List.any_cons]
    by_cases h : x.sc.at_ = p
    · rw [if_pos h, decide_eq_true (by omega), show (x.sc.at_ == p) = true by simpa using h, Bool.true_or]
    · rw [if_neg h, atL_any p D (i + 1), show (x.sc.at_ == p) = false by simpa using h, Bool.false_or]
theorem goodP_at (D : List Ins) (n : Nat) (hF : Fine n D) (p : Int) : goodP D n p = decide (0 ≤ atL D 0 p) := by
  unfold goodP
  rw [atL_any p D 0]
  cases h : D.any fun x => x.sc.at_ == p
  · rw [Bool.and_false]
  · obtain ⟨x, hx, he⟩ := List.any_eq_true.1 h
    obtain ⟨j, hj, rfl⟩ := List.getElem_of_mem hx
    obtain ⟨⟨a, ha, hb⟩, _⟩ := hF j hj
    have e1 : D.getD j Ins.zero = D[j] := by rw [List.getD_eq_getElem?_getD, List.getElem?_eq_getElem hj]; rfl
    rw [e1] at ha
    have e2 : D[j].sc.at_ = p := by simpa using he
    rw [decide_eq_true (show 0 ≤ p by omega), decide_eq_true (show p < (n : Int) by omega)]
    rfl
/-! The document's Leads. -/
theorem jmp_imm : ∀ n : Nat, n < 256 → (ofC (n : Int)).1.imm = (((ofC (n : Int)).1.imm).toNat : Int) ∧ (ofC (n : Int)).1.jumps = ((ofC (n : Int)).1.imm == 5 || (ofC (n : Int)).1.imm == 6 || (ofC (n : Int)).1.imm == 7) := by decide +kernel
set_option maxHeartbeats 2000000 in
theorem refleads_any (x : Ins) (r : RI) (w : World) (B : Nat) (T : Tab w) (h : InsR w B r x) (hB : B ≤ w.heap.size) (o0 : 0 ≤ x.sc.op) (o1 : x.sc.op < 256) (hn : r.tn ≤ 70000) :
    Calls Tryz.prog 32 #[r.val] w fun e w' => ∃ A' c', e = .returned (.slice A' (leadL x).length c') ∧ OV inR 3 w' (Lt w.heap.size) A' (leadL x).length c' (leadL x) ∧ Below w.heap.size w w' := by
  obtain ⟨hsc, ht, hm, hle, hle2⟩ := h
  obtain ⟨⟨s0, s1, s2, s3, s4, s5, s6, s7⟩, tA, tn, tc, mA, mn, mc⟩ := r
  obtain ⟨sc, tab, mat⟩ := x
  simp only at hsc
  subst hsc
  unfold leadL jmpO RI.val
  simp only at ht hm hle hn o0 o1 ⊢
  have hl := ht.len
  have HO := Lib.hid (refofC_any s1 o0 o1)
  obtain ⟨on, hon⟩ : ∃ on : Nat, s1 = on := ⟨s1.toNat, by omega⟩
  have hki := jmp_imm on (by omega)
  rw [← hon] at hki
  rcases hof : ofC s1 with ⟨⟨x0, x1, x2, x3, x4, x5, x6⟩, er⟩
  rw [hof] at HO hki
  unfold OfSaid at HO
  simp only [Inf.val] at HO
  simp only at hki ⊢
  obtain ⟨k, hk⟩ : ∃ k : Nat, x2.toNat = k := ⟨_, rfl⟩
  rw [hk] at hki
  obtain ⟨hx2, hj⟩ := hki
  subst hx2
  clear hof hon hk hm hle2
  have HTA := Lib.hid ht
  have HT := Lib.hid (T.alloc (.cells #[.int .i64 s0, .int .u8 s1, .int .i64 s2, .int .u8 s3, .int .u16 s4, .int .i64 s5, .int .i64 s6, .slice tA tn tc, .slice mA mn mc, .int .u16 s7] 28))
  have HY := Lib.hid (Blk.new w #[.int .i64 s0, .int .u8 s1, .int .i64 s2, .int .u8 s3, .int .u16 s4, .int .i64 s5, .int .i64 s6, .slice tA tn tc, .slice mA mn mc, .int .u16 s7] 28)
  have HK := Lib.hid (below_new w (.cells #[.int .i64 s0, .int .u8 s1, .int .i64 s2, .int .u8 s3, .int .u16 s4, .int .i64 s5, .int .i64 s6, .slice tA tn tc, .slice mA mn mc, .int .u16 s7] 28))
  have hsz : (w.alloc (.cells #[.int .i64 s0, .int .u8 s1, .int .i64 s2, .int .u8 s3, .int .u16 s4, .int .i64 s5, .int .i64 s6, .slice tA tn tc, .slice mA mn mc, .int .u16 s7] 28)).heap.size = w.heap.size + 1 := by simp
  clear T ht
  have hb : (x5 = true ∧ (((k : Int) == 5) = true ∨ (((k : Int) == 5) = false ∧ ((k : Int) == 6) = true) ∨ (((k : Int) == 5) = false ∧ ((k : Int) == 6) = false ∧ ((k : Int) == 7) = true))) ∨ (x5 = false ∧ ((k : Int) == 5) = false ∧ ((k : Int) == 6) = false ∧ ((k : Int) == 7) = false) := by
    rw [hj]
    cases ((k : Int) == 5) <;> cases ((k : Int) == 6) <;> cases ((k : Int) == 7) <;> simp
  have HB := Lib.hid hb
  have HLT := Lib.hid hl
  generalize hLL : (if x5 = true then s6 :: tab else []) = L
  have HLL := Lib.hid hLL
  clear hj hb hl hLL
  go_enter Tryz.func32, Tryz.ntmps32
  go_upto_region 1 with (fail)
  generalize w.alloc (.cells #[.int .i64 s0, .int .u8 s1, .int .i64 s2, .int .u8 s3, .int .u16 s4, .int .i64 s5, .int .i64 s6, .slice tA tn tc, .slice mA mn mc, .int .u16 s7] 28) = w1 at HT HY HK hsz ⊢
  have y1 : w1.cell? ⟨w.heap.size, 1, none⟩ = some (.int .u8 s1) := HY.out.cell 1
  go_wp2_with fail
  refine (HO.out _ HT.out).mono ?_
  rintro e w2 ⟨rfl, b2⟩
  have hz2 := b2.size
  have HY := Lib.hid ((HY.out.below b2).alloc (.cells #[.int .u8 x0, .string ⟨x1.toArray⟩, .int .u8 k, .int .i64 x3, .int .i64 x4, .bool x5, .bool x6] 46))
  have HK := Lib.hid ((HK.out.trans (b2.mono (by omega))).alloc (by omega) (.cells #[.int .u8 x0, .string ⟨x1.toArray⟩, .int .u8 k, .int .i64 x3, .int .i64 x4, .bool x5, .bool x6] 46))
  have HI := Lib.hid (Blk.new w2 #[.int .u8 x0, .string ⟨x1.toArray⟩, .int .u8 k, .int .i64 x3, .int .i64 x4, .bool x5, .bool x6] 46)
  clear b2 y1 HT
  go_upto_region 2 with (fail)
  generalize w2.alloc (.cells #[.int .u8 x0, .string ⟨x1.toArray⟩, .int .u8 k, .int .i64 x3, .int .i64 x4, .bool x5, .bool x6] 46) = w3 at HY HK HI ⊢
  have q2 : w3.cell? ⟨w2.heap.size, 2, none⟩ = some (.int .u8 k) := HI.out.cell 2
  have y6 : w3.cell? ⟨w.heap.size, 6, none⟩ = some (.int .i64 s6) := HY.out.cell 6
  have hzk := HK.out.size
  have HR1 := Lib.hid (rv_int w3 s6)
  have HRT := Lib.hid (HTA.out.below HK.out hB)
  rcases HB.out with ⟨rfl, hk⟩ | ⟨rfl, e5, e6, e7⟩
  · have h := HLL.out
    rw [if_pos rfl] at h
    have hlen : L.length = 1 + tn := by rw [← h, List.length_cons, HLT.out]; omega
    have HLN := Lib.hid hlen
    have HLE := Lib.hid h
    clear hlen h HLL
    rcases hk with e5 | ⟨e5, e6⟩ | ⟨e5, e6, e7⟩
    all_goals
      go_upto_region 4 with (fail)
      go_upto_region 5 with (at_builtin; refine wpList_appV inFit rfl _ _ rfl (Lt (w.heap.size + 1)) none 0 0 [] rfl OV.nil_ _ _ 1 1 [s6] rfl HR1.out 1 rfl [s6] rfl (by omega) (fun q hq => by have : q < w.heap.size + 1 := hq; simp; omega) ?_; intro A5 c5 w5 ho5 hb5)
      have HO5 := Lib.hid ho5
      have HB5 := Lib.hid ((HK.out.alloc hzk (.cells #[.int .i64 s6] 3)).trans (hb5.below fun q hq => Nat.lt_succ_of_lt hq))
      have y7 : w5.cell? ⟨w.heap.size, 7, none⟩ = some (.slice tA tn tc) := (hb5.cell (p := ⟨w.heap.size, 7, none⟩) (Nat.lt_succ_self _)).trans ((HY.out.alloc (.cells #[.int .i64 s6] 3)).cell 7)
      have hz5 : w.heap.size + 1 ≤ w5.heap.size := by have := hb5.size; simp at this; omega
      clear ho5 hb5
      go_wp2_with (at_builtin; refine wpList_appV inFit rfl _ _ rfl (Lt (w.heap.size + 1)) A5 1 c5 [s6] rfl HO5.out B tA tn tc tab rfl (HTA.out.below HB5.out hB) L.length HLN.out L HLE.out.symm (by omega) (fun q hq => Nat.lt_of_lt_of_le hq hz5) ?_; intro A6 c6 w6 ho6 hb6)
      go_returns
      exact ⟨A6, c6, rfl, ho6.less (fun q hq => Nat.lt_succ_of_lt hq), HB5.out.trans (hb6.below fun q hq => Nat.lt_succ_of_lt hq)⟩
  · have h := HLL.out
    rw [if_neg (by decide)] at h
    clear HLL
    subst h
    go_wp2_with fail
    go_returns
    exact ⟨none, 0, rfl, OV.nil_, HK.out⟩
end Go.Proofs.YtolifmpkillglaaGreatDoor

set_option linter.unusedVariables false
set_option maxRecDepth 100000
namespace Go.Proofs.YtolifmpkillglaaGreatDoor
open Go.RowKit
/-! The document's Read: the walk. -/
theorem goOn_E (l : List Int) (n : Nat) (e : Int) (he : e ≠ 0) (hz : n ≠ 0) (hl : l.length = n) (h2 : ¬ 2000 < n) (h : goOn [] (readF l n 0) = (e, [])) : readC l = (e, []) := by
  obtain ⟨hl1, _⟩ := goOn_nil l n 0 e [] h
  rw [readC_l l (by omega), readL_e l (by omega) (by rw [hl, hl1]; exact he), hl, hl1]
theorem goOn_W (l : List Int) (n : Nat) (D : List Ins) (hz : n ≠ 0) (hl : l.length = n) (h2 : ¬ 2000 < n) (h : goOn [] (readF l n 0) = (0, D)) : readC l = if waysL D n then (0, D) else (5, []) := by
  obtain ⟨hl1, hl2⟩ := goOn_nil l n 0 0 D h
  rw [readC_l l (by omega), readL_w l (by omega) (by rw [hl]; exact hl1), hl, hl2 rfl]
set_option maxHeartbeats 4000000 in
theorem refread_any (l : List Int) : ReadSaid 15 l (readC l) := by
  intro w B A n c TT hr hn hc hB
  have hl := hr.len
  have hrg := hr.rg
  by_cases h2 : 2000 < n
  · rw [readC_3 l (by omega)]
    have i2 : (n : Int) > 2000 := by omega
    clear TT hr
    go_enter Tryz.func15, Tryz.ntmps15
    go_wp2_with fail
    go_returns
    first | exact ⟨none, 0, [], rfl, IN.nil _ _, Below.refl _ _⟩ | exact ⟨none, 0, rfl, ⟨[], IN.nil _ _⟩, Below.refl _ _⟩
  · have i2 : ¬ (n : Int) > 2000 := by omega
    by_cases hz : n = 0
    · rw [readC_l l (by omega), readL_0 l (by omega)]
      subst hz
      clear TT hr
      go_enter Tryz.func15, Tryz.ntmps15
      go_wp2_with fail
      go_returns
      first | exact ⟨none, 0, [], rfl, IN.nil _ _, Below.refl _ _⟩ | exact ⟨none, 0, rfl, ⟨[], IN.nil _ _⟩, Below.refl _ _⟩
    · have hn1 : ((n : Int) == 0) = false := beq_eq_false_iff_ne.2 (by omega)
      have HT := Lib.hid TT.tab
      have HR := Lib.hid hr
      have HOKE := Lib.hid (insE_ok l)
      have HS := Lib.hid (goOn_step l)
      have HG := Lib.hid (goOn_err l)
      have HN := Lib.hid (goOn_end l)
      have HE := Lib.hid (fun e he => goOn_E l n e he hz hl h2)
      have HW := Lib.hid (fun D => goOn_W l n D hz hl h2)
      have HU := Lib.hid (fun i k hi hk h hk12 => uni_all l i k hrg (by omega) hi hk h hk12)
      have HNO := Lib.hid (insE_no l)
      have HLL := Lib.hid hl
      generalize readC l = R at HE HW ⊢
      clear TT hr hl
      have HTK0 : Hid (TK (w.alloc (.cells #[.slice A n c, .int .i64 0, .bool false] 64)) w.heap.size A n c 0 false) := Lib.hid (Blk.new w _ _)
      have HB0 := Lib.hid (below_new w (.cells #[.slice A n c, .int .i64 0, .bool false] 64))
      go_enter Tryz.func15, Tryz.ntmps15
      go_wp2_with fail
      go_loopw [4] (fun s wr => ∃ (i f : Nat) (D : List Ins) (A' : Option Addr) (c' : Nat) (rs : List RI), s = .slice A' D.length c' ∧ i ≤ n ∧ D.length ≤ i ∧ n ≤ i + f ∧ IN wr (w.heap.size + 1) A' D.length c' rs D ∧ Fine n D ∧ goOn D (readF l f i) = goOn [] (readF l n 0) ∧ TK wr w.heap.size A n c i false ∧ Below w.heap.size w wr) (fun _ wr => n - posOf wr w.heap.size)
      case atStart => exact ⟨0, n, [], none, 0, [], rfl, Nat.zero_le _, Nat.le_refl _, by omega, IN.nil _ _, Fine.nil _, rfl, HTK0.out, HB0.out⟩
      case round =>
        clear HTK0 HB0
        obtain ⟨i, f, D, A', c', rs, rfl, hi, hDi, hf, IN0, hF, hgo, X0, Bw⟩ := hrel
        have i0 : (0 : Int) ≤ (i : Int) := by omega
        have hzw := Bw.size
        have hgz : w.heap.size < wr.heap.size := Blk.lt X0
        have u1 : wr.cell? ⟨w.heap.size, 1, none⟩ = some (.int .i64 i) := Blk.cell X0 1
        by_cases hlt : (i : Int) < (n : Int)
        · obtain ⟨f, rfl⟩ : ∃ g, f = g + 1 := ⟨f - 1, by omega⟩
          have hil : i < l.length := by rw [HLL.out]; omega
          have hok := HOKE.out i hrg hil
          have hst := HS.out D f i hil
          have her := HG.out D f i hil
          have ho := rng_getD hrg i
          have HO := Lib.hid (refofC_any (l.getD i 0) ho.1 ho.2)
          obtain ⟨on, hon⟩ : ∃ on : Nat, l.getD i 0 = on := ⟨(l.getD i 0).toNat, by omega⟩
          have hofk := ofC_ok on (by omega)
          rw [← hon] at hofk
          clear hon on
          have hno := HNO.out i
          have hu := fun k hk h hk12 => HU.out i k hil hk h hk12
          unfold UniSaid at hu
          obtain ⟨b0, off, hA, hb0, q0⟩ := rd_byte (HR.out.below Bw hB) i (by omega)
          have HIN := Lib.hid IN0
          have HB := Lib.hid Bw
          have HF := Lib.hid hF
          have HGO := Lib.hid hgo
          have HX := Lib.hid X0
          have HPOS := Lib.hid (posOf_tk X0)
          have HAB : Hid (∀ b o sp, A' = some ⟨b, o, sp⟩ → b < wr.heap.size) := Lib.hid (fun b o sp h => (IN0.rv.out b o sp h).2)
          have hop := ho
          generalize l.getD i 0 = o at HO hofk hno hu q0 hok hop
          have HOK := Lib.hid hok
          have HST := Lib.hid hst
          have HER := Lib.hid her
          have HNO1 := Lib.hid hno
          have HUU := Lib.hid hu
          have HRA := Lib.hid (HR.out.below Bw hB)
          clear IN0 Bw hF hgo X0 hok hst her hno hu ho hil
          have hbw : b0 < wr.heap.size := by omega
          subst hA
          go_upto_region 8 with (fail)
          go_cut [6] from 22 to 78 (fun v wx => v = .pointer (some ⟨wr.heap.size, 0, none⟩) ∧ BX wx wr.heap.size ⟨scI i o, none, 0, 0, none, 0, 0⟩ ∧ Below wr.heap.size wr wx)
          case first =>
            go_region_law (fail)
            all_goals
              clear hofk
              go_wp2_with fail
              go_meet
              exact ⟨rfl, Blk.new _ _ _, ((Below.refl _ _).alloc (Nat.le_refl _) _).drew⟩
          case rest =>
            obtain ⟨rfl, Y, b1⟩ := hcut
            have hz1 : wr.heap.size < wc.heap.size := Blk.lt Y
            have HT1 := Lib.hid (HT.out.below' (HB.out.trans (b1.mono hzw)))
            have HX1 := Lib.hid (Blk.below HX.out b1)
            have HY1 := Lib.hid Y
            have HB1 := Lib.hid b1
            have y1 : wc.cell? ⟨wr.heap.size, 1, none⟩ = some (.int .u8 o) := Y.cells10 1
            clear Y b1 q0 u1 HX HRA
            rcases hof : ofC o with ⟨⟨x0, x1, x2, x3, x4, x5, x6⟩, er⟩
            rw [hof] at HO hofk HNO1 HUU
            unfold OfSaid at HO
            simp only [Inf.val] at HO
            simp only at hofk HNO1 HUU
            clear hof
            go_wp2_with fail
            refine (HO.out _ HT1.out).mono ?_
            rintro e w2 ⟨rfl, b2⟩
            have hz2 := b2.size
            have HY2 := Lib.hid (Blk.alloc (Blk.below HY1.out b2) (.cells #[.int .u8 x0, .string ⟨x1.toArray⟩, .int .u8 x2, .int .i64 x3, .int .i64 x4, .bool x5, .bool x6] 46))
            have HX2 := Lib.hid (Blk.alloc (Blk.below HX1.out b2) (.cells #[.int .u8 x0, .string ⟨x1.toArray⟩, .int .u8 x2, .int .i64 x3, .int .i64 x4, .bool x5, .bool x6] 46))
            have HI2 := Lib.hid (Blk.new w2 #[.int .u8 x0, .string ⟨x1.toArray⟩, .int .u8 x2, .int .i64 x3, .int .i64 x4, .bool x5, .bool x6] 46)
            have HB2 := Lib.hid ((HB1.out.trans (b2.mono (Nat.le_of_lt hz1))).alloc (by omega) (.cells #[.int .u8 x0, .string ⟨x1.toArray⟩, .int .u8 x2, .int .i64 x3, .int .i64 x4, .bool x5, .bool x6] 46))
            have hz3 : (w2.alloc (.cells #[.int .u8 x0, .string ⟨x1.toArray⟩, .int .u8 x2, .int .i64 x3, .int .i64 x4, .bool x5, .bool x6] 46)).heap.size = w2.heap.size + 1 := by simp
            clear b2 y1 HT1 HX1 HY1 HB1
            go_upto_region 10 with (fail)
            generalize w2.alloc (.cells #[.int .u8 x0, .string ⟨x1.toArray⟩, .int .u8 x2, .int .i64 x3, .int .i64 x4, .bool x5, .bool x6] 46) = w3 at HY2 HX2 HI2 HB2 hz3 ⊢
            have u1 : w3.cell? ⟨w.heap.size, 1, none⟩ = some (.int .i64 i) := Blk.cell HX2.out 1
            have uf : w3.frozen? ⟨w.heap.size, 1, none⟩ = false := Blk.froz HX2.out 1
            have hgh : w.heap.size ≠ wr.heap.size := by omega
            by_cases her : er = 0
            · subst her
              obtain ⟨-, hx2, hk12, -⟩ := hofk rfl
              obtain ⟨sc, T, M, at', s', ok, HBH, hE⟩ := HUU.out _ rfl rfl hk12
              have HBH := Lib.hid HBH
              have HEE := Lib.hid hE
              generalize kO o = k at hx2 hk12 HBH
              subst hx2
              clear hofk HUU HNO1 hE
              have X4 : TK (w3.setCell ⟨w.heap.size, 1, none⟩ (.int .i64 ((i : Int) + 1))) w.heap.size (some ⟨b0, off, none⟩) n c (i + 1) false := Blk.set HX2.out 1 (.int .i64 ((i : Int) + 1))
              have Y4 : BX (w3.setCell ⟨w.heap.size, 1, none⟩ (.int .i64 ((i : Int) + 1))) wr.heap.size ⟨scI i o, none, 0, 0, none, 0, 0⟩ := Blk.other HY2.out ⟨w.heap.size, 1, none⟩ _ (Ne.symm hgh)
              have I4 := Blk.other HI2.out ⟨w.heap.size, 1, none⟩ (.int .i64 ((i : Int) + 1)) (by show w2.heap.size ≠ w.heap.size; omega)
              have B4 : Below w.heap.size w (w3.setCell ⟨w.heap.size, 1, none⟩ (.int .i64 ((i : Int) + 1))) := (HB.out.trans (HB2.out.mono hzw)).setCell (Nat.le_refl _) _
              have K4 : ∀ q, w.heap.size + 1 ≤ q → q < wr.heap.size → (w3.setCell ⟨w.heap.size, 1, none⟩ (.int .i64 ((i : Int) + 1))).heap[q]? = wr.heap[q]? := fun q hq1 hq2 => (Below.heap_setCell _ _ _ _ (by show q ≠ w.heap.size; omega)).trans (HB2.out.block q hq2)
              have Z4 : (w3.setCell ⟨w.heap.size, 1, none⟩ (.int .i64 ((i : Int) + 1))).heap.size = w3.heap.size := by simp [World.setCell]
              have HX4 := Lib.hid X4
              have HY4 := Lib.hid Y4
              have HI4 := Lib.hid I4
              have HB4 := Lib.hid B4
              have HK4 := Lib.hid K4
              clear X4 Y4 I4 B4 K4 HX2 HY2 HI2
              go_upto_region 13 with (fail)
              generalize w3.setCell ⟨w.heap.size, 1, none⟩ (.int .i64 ((i : Int) + 1)) = w4 at HX4 HY4 HI4 HB4 HK4 Z4 ⊢
              have q2 : w4.cell? ⟨w2.heap.size, 2, none⟩ = some (.int .u8 k) := Blk.cell HI4.out 2
              clear u1 uf
              go_wp2_with fail
              refine (HBH.out w4 w.heap.size wr.heap.size B n c _ HX4.out HY4.out hgh hB (Nat.le_trans hB hzw) (HR.out.below HB4.out hB) hn).mono ?_
              rintro e w5 ⟨A5, c5, A6, c6, rfl, X5, Y5, O5, P6, K5⟩
              have hz5 := K5.size
              have HIN5 := Lib.hid (HIN.out.keepB (w' := w5) (fun q hq1 hq2 => (K5.block q ⟨by omega, by omega, by omega⟩).trans (HK4.out q hq1 hq2)))
              have HB5 : Hid (Below w.heap.size w w5) := Lib.hid (HB4.out.trans (K5.below fun q hq => ⟨by omega, by omega, by omega⟩))
              have u2 : w5.cell? ⟨w.heap.size, 2, none⟩ = some (.bool s') := Blk.cell X5 2
              have u1 : w5.cell? ⟨w.heap.size, 1, none⟩ = some (.int .i64 at') := Blk.cell X5 1
              have HX5 := Lib.hid X5
              have HY5 := Lib.hid Y5
              have HO5 := Lib.hid O5
              have HP6 := Lib.hid P6
              clear X5 Y5 O5 P6 K5 q2 HI4 HB4 HK4 HX4 HY4 HBH HIN HB2
              rcases HEE.out with ⟨rfl, h4⟩ | ⟨rfl, hat, ⟨rfl, h5⟩ | ⟨rfl, hin⟩⟩
              · have hR := HE.out 4 (by decide) (HGO.out.symm.trans (by have := HER.out (by rw [h4]; decide); rw [h4] at this; exact this))
                subst hR
                clear h4 HEE
                go_wp2_with fail
                go_returns
                first | exact ⟨none, 0, [], rfl, IN.nil _ _, HB5.out⟩ | exact ⟨none, 0, rfl, ⟨[], IN.nil _ _⟩, HB5.out⟩
              · have hR := HE.out 5 (by decide) (HGO.out.symm.trans (by have := HER.out (by rw [h5]; decide); rw [h5] at this; exact this))
                subst hR
                have hat2 : ¬ (at' : Int) > (n : Int) := by rw [← HLL.out]; omega
                clear h5 HEE hat
                go_wp2_with fail
                go_returns
                first | exact ⟨none, 0, [], rfl, IN.nil _ _, HB5.out⟩ | exact ⟨none, 0, rfl, ⟨[], IN.nil _ _⟩, HB5.out⟩
              · have hok := HOK.out (by rw [hin])
                have hst := HST.out (by rw [hin])
                rw [hin] at hok hst
                simp only at hok hst
                obtain ⟨ok1, ok2, ok3, ok4, ok5, ok6⟩ := hok
                have HGO2 := Lib.hid (hst.symm.trans HGO.out)
                have HF2 := Lib.hid (HF.out.more (x := ⟨sc, T, M⟩) ⟨i, ok1, by omega⟩ (by show 0 ≤ sc.op ∧ sc.op < 256; rw [ok2]; exact hop) ok3)
                have hat2 : ¬ (at' : Int) > (n : Int) := by rw [← HLL.out]; omega
                have hnx : at' ≤ n := by rw [← HLL.out]; exact hat
                obtain ⟨s0, s1, s2, s3, s4, s5, s6, s7⟩ := sc
                have hle4 : ∀ q, Off A' (w.heap.size + 1) q → q < w4.heap.size := fun q hq => by
                  rcases hq with h | ⟨⟨b, o', sp⟩, ha, rfl⟩
                  · omega
                  · have := HAB.out b o' sp ha
                    show b < _
                    omega
                have HN2 : Hid (InsN w5 (Off A' (w.heap.size + 1)) ⟨⟨s0, s1, s2, s3, s4, s5, s6, s7⟩, A5, T.length, c5, A6, M.length, c6⟩ ⟨⟨s0, s1, s2, s3, s4, s5, s6, s7⟩, T, M⟩) := Lib.hid ⟨rfl, HO5.out.less hle4, HP6.out.less hle4⟩
                have HBX : Hid (Blk w5 wr.heap.size #[.int .i64 s0, .int .u8 s1, .int .i64 s2, .int .u8 s3, .int .u16 s4, .int .i64 s5, .int .i64 s6, .slice A5 T.length c5, .slice A6 M.length c6, .int .u16 s7] 28) := Lib.hid HY5.out
                have HRV := Lib.hid (rv_ri w5 ⟨⟨s0, s1, s2, s3, s4, s5, s6, s7⟩, A5, T.length, c5, A6, M.length, c6⟩ ok6)
                have HOWN := Lib.hid ((HIN5.out.own HN2.out).alloc (.cells #[.int .i64 s0, .int .u8 s1, .int .i64 s2, .int .u8 s3, .int .u16 s4, .int .i64 s5, .int .i64 s6, .slice A5 T.length c5, .slice A6 M.length c6, .int .u16 s7] 28))
                have HLV : Hid (∀ k, KeepS (w.heap.size + 1) (rs ++ [⟨⟨s0, s1, s2, s3, s4, s5, s6, s7⟩, A5, T.length, c5, A6, M.length, c6⟩]) k → k < (w5.alloc (.cells #[.int .i64 s0, .int .u8 s1, .int .i64 s2, .int .u8 s3, .int .u16 s4, .int .i64 s5, .int .i64 s6, .slice A5 T.length c5, .slice A6 M.length c6, .int .u16 s7] 28)).heap.size) := Lib.hid (fun k hk => by
                  have h3 := HIN5.out.live (by omega) HN2.out k hk
                  simp
                  omega)
                have HIN6 := Lib.hid (HIN5.out.below (below_new w5 (.cells #[.int .i64 s0, .int .u8 s1, .int .i64 s2, .int .u8 s3, .int .u16 s4, .int .i64 s5, .int .i64 s6, .slice A5 T.length c5, .slice A6 M.length c6, .int .u16 s7] 28)))
                have HN3 := Lib.hid (HN2.out.below (below_new w5 (.cells #[.int .i64 s0, .int .u8 s1, .int .i64 s2, .int .u8 s3, .int .u16 s4, .int .i64 s5, .int .i64 s6, .slice A5 T.length c5, .slice A6 M.length c6, .int .u16 s7] 28)))
                have HX6 := Lib.hid (Blk.alloc HX5.out (.cells #[.int .i64 s0, .int .u8 s1, .int .i64 s2, .int .u8 s3, .int .u16 s4, .int .i64 s5, .int .i64 s6, .slice A5 T.length c5, .slice A6 M.length c6, .int .u16 s7] 28))
                have HB6 := Lib.hid (HB5.out.alloc HB5.out.size (.cells #[.int .i64 s0, .int .u8 s1, .int .i64 s2, .int .u8 s3, .int .u16 s4, .int .i64 s5, .int .i64 s6, .slice A5 T.length c5, .slice A6 M.length c6, .int .u16 s7] 28))
                have hdl : (D.length + 1) * 104 ≤ 140737488355328 := by omega
                clear hat hst ok1 ok2 ok3 ok6 hop hin HEE hle4 HIN5 HN2 HX5 HY5 HO5 HP6 HGO HF HOK HST HER HAB
                go_wp2_with (first
                  | ((with_reducible refine wpList_ldI rfl (.tmp 6) rfl HBX.out ?_ ?_ ?_); exact rfl; exact rfl)
                  | (at_builtin; go_loud (refine wpList_appV riFit rfl _ _ rfl (KeepS (w.heap.size + 1) (rs ++ [⟨⟨s0, s1, s2, s3, s4, s5, s6, s7⟩, A5, T.length, c5, A6, M.length, c6⟩])) A' D.length c' rs rfl HOWN.out (w5.heap.size + 1) (some ⟨w5.heap.size, 0, none⟩) 1 1 [⟨⟨s0, s1, s2, s3, s4, s5, s6, s7⟩, A5, T.length, c5, A6, M.length, c6⟩] rfl HRV.out (D.length + 1) rfl (rs ++ [⟨⟨s0, s1, s2, s3, s4, s5, s6, s7⟩, A5, T.length, c5, A6, M.length, c6⟩]) rfl hdl HLV.out ?_); intro A7 c7 w7 ho7 hk7))
                have HM := Lib.hid (HIN6.out.more HN3.out ho7 hk7)
                have HX7 : Hid (TK w7 w.heap.size (some ⟨b0, off, none⟩) n c at' false) := Lib.hid (Blk.kp HX6.out hk7 (.inl (by omega)))
                have HB7 := Lib.hid (HB6.out.trans (hk7.below (fun k hk => .inl (by omega))))
                have hlen : (D ++ [(⟨⟨s0, s1, s2, s3, s4, s5, s6, s7⟩, T, M⟩ : Ins)]).length = D.length + 1 := by simp
                rw [← hlen] at HM ⊢
                clear ho7 hk7
                go_roundw
                case rel => exact ⟨at', f, D ++ [⟨⟨s0, s1, s2, s3, s4, s5, s6, s7⟩, T, M⟩], A7, c7, rs ++ [⟨⟨s0, s1, s2, s3, s4, s5, s6, s7⟩, A5, T.length, c5, A6, M.length, c6⟩], rfl, hnx, by rw [hlen]; omega, by omega, HM.out, HF2.out, HGO2.out, HX7.out, HB7.out⟩
                case measure =>
                  show n - posOf w7 w.heap.size < n - posOf wr w.heap.size
                  rw [posOf_tk HX7.out, HPOS.out]
                  omega
            · have hne : (er != 0) = true := by simpa using her
              have hi5 := HNO1.out her
              have hR := HE.out 5 (by decide) (HGO.out.symm.trans (by have := HER.out (by rw [hi5]; decide); rw [hi5] at this; exact this))
              subst hR
              have HBf := Lib.hid (HB.out.trans (HB2.out.mono hzw))
              clear hi5 her hofk HNO1 HUU
              go_wp2_with fail
              go_returns
              first | exact ⟨none, 0, [], rfl, IN.nil _ _, HBf.out⟩ | exact ⟨none, 0, rfl, ⟨[], IN.nil _ _⟩, HBf.out⟩
        · obtain rfl : i = n := by omega
          have hR := HW.out D (hgo.symm.trans (HN.out D f i (by rw [HLL.out]; omega)))
          have hV := IN0.iv
          have hgp : ∀ p, goodP D i p = decide (0 ≤ atL D 0 p) := goodP_at D i hF
          obtain ⟨N, hN⟩ : ∃ N, N = D.length := ⟨_, rfl⟩
          rw [← hN] at hV IN0 hDi ⊢
          have HNN := Lib.hid hN
          have HV := Lib.hid hV
          have HIN := Lib.hid IN0
          have HB := Lib.hid Bw
          have HF := Lib.hid hF
          have HGP := Lib.hid hgp
          have HRR := Lib.hid hR
          have hnn : i ≤ 2000 := by omega
          clear IN0 Bw hgo X0 hF hV hgp hN hR
          have HTW := Lib.hid (HT.out.below' HB.out)
          go_wp2_with fail
          go_loopw [10] (fun s wx => ∃ j : Nat, j ≤ N ∧ s = .int .i64 j ∧ ((D.take j).all fun x => (leadL x).all (goodP D i)) = true ∧ Below wr.heap.size wr wx) (fun s _ => N - (intOf s).toNat)
          case atStart => exact ⟨0, Nat.zero_le _, rfl, rfl, Below.refl _ _⟩
          case round =>
            obtain ⟨j, hj, rfl, hall, hbx⟩ := hrel
            have j0 : (0 : Int) ≤ (j : Int) := by omega
            by_cases hjt : (j : Int) < (N : Int)
            · have V := HV.out.below hbx (Nat.le_refl _)
              obtain ⟨b, o, hA, hbB, c0, c1, c2, c3, c4, c5, c6, c7, c8, c9⟩ := V.ten j (by omega)
              have hjD : j < D.length := by rw [← HNN.out]; omega
              have hfj := HF.out j hjD
              have RR := V.each j (by omega)
              have hsuc := take_all_succ D Ins.zero j hjD (fun x => (leadL x).all (goodP D i))
              have hno := all_no D Ins.zero j hjD (fun x => (leadL x).all (goodP D i))
              have htl := RR.tab.len
              generalize D.getD j Ins.zero = x at hfj RR hsuc hno htl
              generalize rs.getD j RI.zero = r at c0 c1 c2 c3 c4 c5 c6 c7 c8 c9 RR htl
              obtain ⟨⟨s0, s1, s2, s3, s4, s5, s6, s7⟩, tA, tn, tc, mA, mn, mc⟩ := r
              simp only at c0 c1 c2 c3 c4 c5 c6 c7 c8 c9 htl
              have HLD := Lib.hid (refleads_any x ⟨⟨s0, s1, s2, s3, s4, s5, s6, s7⟩, tA, tn, tc, mA, mn, mc⟩ wr _ (HTW.out.below' hbx) RR hbx.size hfj.2.1.1 hfj.2.1.2 (by show tn ≤ 70000; omega))
              rw [RI.val_eq] at HLD
              have hll : (leadL x).length ≤ 65537 := by
                unfold leadL
                split
                · rw [List.length_cons]; omega
                · simp
              have HBX := Lib.hid hbx
              have HALL := Lib.hid hall
              have HSUC := Lib.hid hsuc
              have HNOJ := Lib.hid hno
              generalize leadL x = L at HLD hll HSUC HNOJ
              subst hA
              clear V RR hfj hbx hall hsuc hno htl hjD
              go_wp2_with fail
              refine HLD.out.mono ?_
              rintro e w2 ⟨A2, d2, rfl, ho2, hb2⟩
              have HRV := Lib.hid ho2.rv
              have HB2 := Lib.hid (HBX.out.trans (hb2.mono HBX.out.size))
              clear ho2 hb2 HLD c0 c1 c2 c3 c4 c5 c6 c7 c8 c9
              obtain ⟨q, hq⟩ : ∃ q, q = L.length := ⟨_, rfl⟩
              rw [← hq] at HRV hll ⊢
              have HQ := Lib.hid hq
              clear hq
              go_wp2_with fail
              go_loopw [12] (fun s wy => ∃ k qq : Nat, k ≤ q ∧ s = .int .i64 k ∧ ((L.take k).all (goodP D i)) = true ∧ wy = w2.drewN qq) (fun s _ => q - (intOf s).toNat)
              case atStart => exact ⟨0, 0, Nat.zero_le _, rfl, rfl, rfl⟩
              case round =>
                obtain ⟨k, qq, hk, rfl, hall, rfl⟩ := hrel
                have k0 : (0 : Int) ≤ (k : Int) := by omega
                by_cases hkt : (k : Int) < (q : Int)
                · obtain ⟨b3, o3, rfl, _, d0⟩ := (HRV.out.drewN qq).in1 k (by omega)
                  have hkL : k < L.length := by rw [← HQ.out]; omega
                  have hsuc := take_all_succ L 0 k hkL (goodP D i)
                  have hno := all_no L 0 k hkL (goodP D i)
                  generalize L.getD k 0 = p at d0 hsuc hno
                  rw [HGP.out] at hsuc hno
                  have HAT := Lib.hid (fun c => refat_any D p (w2.drewN qq) _ N c _ _ ((HV.out.below HB2.out (Nat.le_refl _)).drewN qq) (by omega))
                  generalize atL D 0 p = v at HAT hsuc hno
                  by_cases hv : v < 0
                  · have hw : waysL D i = false := HNOJ.out (hno (decide_eq_false (by omega)))
                    have hR := HRR.out
                    rw [if_neg (by rw [hw]; decide)] at hR
                    subst hR
                    clear hw hno hsuc hall hkL
                    go_wp2_with fail
                    refine (HAT.out _).mono ?_
                    rintro e w3 ⟨rfl, q3, rfl⟩
                    go_wp2_with fail
                    go_returns
                    first | exact ⟨none, 0, [], rfl, IN.nil _ _, below_drewN (HB.out.trans (HB2.out.mono hzw)) _⟩ | exact ⟨none, 0, rfl, ⟨[], IN.nil _ _⟩, below_drewN (HB.out.trans (HB2.out.mono hzw)) _⟩
                  · have hst := hsuc
                    rw [hall, decide_eq_true (show 0 ≤ v by omega)] at hst
                    have HST := Lib.hid hst
                    clear hst hno hsuc hall hkL
                    go_wp2_with fail
                    refine (HAT.out _).mono ?_
                    rintro e w3 ⟨rfl, q3, rfl⟩
                    go_wp2_with fail
                    go_roundw
                    case rel => exact ⟨k + 1, _, by omega, by go_num, HST.out, rfl⟩
                    case measure => simp [intOf]; omega
                · obtain rfl : k = q := by omega
                  have hL : L.all (goodP D i) = true := by rwa [List.take_of_length_le (by rw [← HQ.out]; exact Nat.le_refl _)] at hall
                  have hst := HSUC.out
                  rw [HALL.out, hL] at hst
                  have HST := Lib.hid hst
                  clear hst hL hall
                  go_wp2_with fail
                  go_roundw
                  case rel => exact ⟨j + 1, by omega, by go_num, HST.out, below_drewN HB2.out _⟩
                  case measure => simp [intOf]; omega
            · obtain rfl : j = N := by omega
              have hw : waysL D i = true := by
                unfold waysL
                rwa [List.take_of_length_le (by rw [← HNN.out]; exact Nat.le_refl _)] at hall
              have hR := HRR.out
              rw [if_pos hw] at hR
              subst hR
              have HBX := Lib.hid hbx
              have HNL := Lib.hid HNN.out
              clear hw hall hbx
              go_wp2_with fail
              go_returns
              first
                | exact ⟨A', c', rs, by rw [← HNL.out]; rfl, by rw [← HNL.out]; exact (HIN.out.below HBX.out).lessM (Nat.le_succ _), HB.out.trans (HBX.out.mono hzw)⟩
                | exact ⟨A', c', by rw [← HNL.out]; rfl, ⟨rs, by rw [← HNL.out]; exact (HIN.out.below HBX.out).lessM (Nat.le_succ _)⟩, HB.out.trans (HBX.out.mono hzw)⟩
end Go.Proofs.YtolifmpkillglaaGreatDoor

