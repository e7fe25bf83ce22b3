import Derived.Test.YtolifmpkillglaaGreatDoorHb
set_option linter.unusedVariables false
set_option maxRecDepth 100000
namespace Go.Proofs.YtolifmpkillglaaGreatDoor
open Go.RowKit
/-! Instructions: as they lie in memory (RI), and what they say (Ins). -/
structure Sc where
  at_ : Int
  op : Int
  a : Int
  b : Int
  n : Int
  pool : Int
  jump : Int
  low : Int
def Sc.zero : Sc := ⟨0, 0, 0, 0, 0, 0, 0, 0⟩
structure RI where
  sc : Sc
  tA : Option Addr
  tn : Nat
  tc : Nat
  mA : Option Addr
  mn : Nat
  mc : Nat
structure Ins where
  sc : Sc
  tab : List Int
  mat : List Int
def Ins.zero : Ins := ⟨Sc.zero, [], []⟩
def RI.cells (r : RI) : List Value := [.int .i64 r.sc.at_, .int .u8 r.sc.op, .int .i64 r.sc.a, .int .u8 r.sc.b, .int .u16 r.sc.n, .int .i64 r.sc.pool, .int .i64 r.sc.jump, .slice r.tA r.tn r.tc, .slice r.mA r.mn r.mc, .int .u16 r.sc.low]
def RI.val (r : RI) : Value := .agg #[.int .i64 r.sc.at_, .int .u8 r.sc.op, .int .i64 r.sc.a, .int .u8 r.sc.b, .int .u16 r.sc.n, .int .i64 r.sc.pool, .int .i64 r.sc.jump, .slice r.tA r.tn r.tc, .slice r.mA r.mn r.mc, .int .u16 r.sc.low]
def RI.zero : RI := ⟨Sc.zero, none, 0, 0, none, 0, 0⟩
/-- The numbers are within their kinds. -/
def Sc.ok (s : Sc) : Prop := (0 ≤ s.op ∧ s.op < 256) ∧ (0 ≤ s.b ∧ s.b < 256) ∧ (0 ≤ s.n ∧ s.n < 65536) ∧ (0 ≤ s.low ∧ s.low < 65536)
def riR : Rec RI where
  enc := RI.cells
  m := 10
  ok r := r.sc.ok
  d := RI.zero
  len _ := rfl
  one r u hu := by
    simp only [RI.cells, List.mem_cons, List.not_mem_nil, or_false] at hu
    rcases hu with rfl | rfl | rfl | rfl | rfl | rfl | rfl | rfl | rfl | rfl <;> rfl
  pos := by decide
  okd := ⟨⟨by decide, by decide⟩, ⟨by decide, by decide⟩, ⟨by decide, by decide⟩, ⟨by decide, by decide⟩⟩
/-- An instruction as it lies in memory, below B, says x. -/
structure InsR (w : World) (B : Nat) (r : RI) (x : Ins) : Prop where
  sc : r.sc = x.sc
  tab : RV inR w B r.tA r.tn x.tab
  mat : RV woR w B r.mA r.mn x.mat
  tle : r.tn ≤ r.tc
  mle : r.mn ≤ r.mc
theorem InsR.keep {w w' : World} {B : Nat} {r : RI} {x : Ins} (h : InsR w B r x) (hk : ∀ p : Addr, p.block < B → w'.cell? p = w.cell? p) : InsR w' B r x := ⟨h.sc, h.tab.keep hk, h.mat.keep hk, h.tle, h.mle⟩
theorem InsR.below {w w' : World} {B B' : Nat} {r : RI} {x : Ins} (h : InsR w B r x) (hb : Below B' w w') (hB : B ≤ B') : InsR w' B r x := h.keep fun p hp => hb.cell (by omega)
theorem InsR.more {w : World} {B B' : Nat} {r : RI} {x : Ins} (h : InsR w B r x) (hB : B ≤ B') : InsR w B' r x := ⟨h.sc, h.tab.more hB, h.mat.more hB, h.tle, h.mle⟩
theorem InsR.zero (w : World) (B : Nat) : InsR w B RI.zero Ins.zero := ⟨rfl, RV.none_, RV.none_, Nat.le_refl _, Nat.le_refl _⟩
/-- The n instructions l stand at A, in blocks below B. -/
structure IV (w : World) (B : Nat) (A : Option Addr) (n : Nat) (rs : List RI) (l : List Ins) : Prop where
  rv : RV riR w B A n rs
  len : l.length = n
  each : ∀ i, i < n → InsR w B (rs.getD i RI.zero) (l.getD i Ins.zero)
theorem IV.keep {w w' : World} {B n : Nat} {A : Option Addr} {rs : List RI} {l : List Ins} (h : IV w B A n rs l) (hk : ∀ p : Addr, p.block < B → w'.cell? p = w.cell? p) : IV w' B A n rs l := ⟨h.rv.keep hk, h.len, fun i hi => (h.each i hi).keep hk⟩
theorem IV.below {w w' : World} {B B' n : Nat} {A : Option Addr} {rs : List RI} {l : List Ins} (h : IV w B A n rs l) (hb : Below B' w w') (hB : B ≤ B') : IV w' B A n rs l := h.keep fun p hp => hb.cell (by omega)
theorem IV.drewN {w : World} {B n : Nat} {A : Option Addr} {rs : List RI} {l : List Ins} (h : IV w B A n rs l) (k : Nat) : IV (w.drewN k) B A n rs l := h.keep fun _ _ => rfl
theorem RV.ri {w : World} {B n : Nat} {A : Option Addr} {rs : List RI} (h : RV riR w B A n rs) (k : Nat) (hk : k < n) :
    ∃ b off, A = some ⟨b, off, none⟩ ∧ b < B ∧ ∀ j, j < 10 → w.cell? ⟨b, off + k * 10 + j, none⟩ = (rs.getD k RI.zero).cells[j]? := by
  obtain ⟨b, o, e, hb, hc⟩ := h.2.2 (by omega)
  refine ⟨b, o, e, hb, fun j hj => ?_⟩
  have := hc k hk j hj
  rw [show o + (k * riR.m + j) = o + k * 10 + j by show o + (k * 10 + j) = _; omega] at this
  exact this
/-! At. -/
def atL : List Ins → Nat → Int → Int
  | [], _, _ => -1
  | x :: r, i, p => if x.sc.at_ = p then (i : Int) else atL r (i + 1) p
theorem ins_drop (l : List Ins) (k : Nat) (h : k < l.length) : l.drop k = l.getD k Ins.zero :: l.drop (k + 1) := by
  rw [List.drop_eq_getElem_cons h, List.getD_eq_getElem?_getD, List.getElem?_eq_getElem h]
  rfl
def AtSaid (f : Nat) (l : List Ins) (p : Int) : Prop := ∀ (w : World) (A : Option Addr) (n c B : Nat) (rs : List RI), IV w B A n rs l → n ≤ 281474976710656 → Calls Tryz.prog f #[.slice A n c, .int .i64 p] w fun e w' => e = .returned (.int .i64 (atL l 0 p)) ∧ ∃ q, w' = w.drewN q
theorem refat_any (l : List Ins) (p : Int) : AtSaid 33 l p := by
  intro w A n c B rs h hn
  have HV := Lib.hid h
  have HD := Lib.hid (ins_drop l)
  have HL := Lib.hid h.len
  generalize hans : atL l 0 p = ans
  have HA := Lib.hid hans
  clear hans h
  go_enter Tryz.func33, Tryz.ntmps33
  go_wp2
  go_loop [5] (fun i => ∃ k : Nat, k ≤ n ∧ i = .int .i64 k ∧ atL (l.drop k) k p = ans) (fun i => n - (intOf i).toNat)
  case atStart => exact ⟨0, Nat.zero_le _, rfl, HA.out⟩
  case round =>
    obtain ⟨k, hk, rfl, hd⟩ := hrel
    by_cases hlt : k < n
    · obtain ⟨b, o, rfl, _, hc⟩ := HV.out.rv.ri k hlt
      have hsc := (HV.out.each k hlt).sc
      have g := hc 0 (by decide)
      simp only [RI.cells, List.getElem?_cons_zero, Nat.add_zero] at g
      rw [hsc] at g
      rw [HD.out k (by rw [HL.out]; exact hlt)] at hd
      unfold atL at hd
      generalize (l.getD k Ins.zero).sc.at_ = x at g hd
      clear hc hsc
      have i0 : (0 : Int) ≤ (k : Int) := by omega
      have i1 : (k : Int) < (n : Int) := by omega
      by_cases hx : x = p
      · rw [if_pos hx] at hd
        have HR := Lib.hid hd
        have b1 : (x == p) = true := by simpa using hx
        clear hd hx
        go_wp2
        go_returns
        exact ⟨by rw [← HR.out]; rfl, 0, rfl⟩
      · rw [if_neg hx] at hd
        have HR := Lib.hid hd
        have b1 : (x == p) = false := by simpa using hx
        clear hd hx
        go_wp2
        go_round
        case rel => exact ⟨k + 1, by omega, by go_num, HR.out⟩
        case measure => simp [intOf]; omega
    · obtain rfl : k = n := by omega
      rw [List.drop_of_length_le (by rw [HL.out]; exact Nat.le_refl _)] at hd
      have HR := Lib.hid (show (-1 : Int) = ans from hd)
      clear hd
      go_wp2
      go_returns
      exact ⟨by rw [← HR.out]; rfl, 0, rfl⟩
end Go.Proofs.YtolifmpkillglaaGreatDoor
