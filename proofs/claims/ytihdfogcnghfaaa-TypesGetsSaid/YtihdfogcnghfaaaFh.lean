import Derived.Test.YtihdfogcnghfaaaFg
set_option linter.unusedVariables false
namespace Go.Proofs.Ytihdfogcnghfaaa
open Go.RowKit
/-! Types behind one another. -/
structure Gots where
  ts : List Ty
  x : Int
  e : Int
def gTs (l : List Int) : List Ty → Nat → Int → Gots
  | acc, 0, i => ⟨acc, i, 0⟩
  | acc, m + 1, i => if (gTy l i).e = 0 then gTs l (acc ++ [((gTy l i).k, (gTy l i).c)]) m (gTy l i).x else ⟨[], 0, (gTy l i).e⟩
theorem gTs_zero (l : List Int) (acc : List Ty) (i : Int) : gTs l acc 0 i = ⟨acc, i, 0⟩ := rfl
theorem gTs_succ (l : List Int) (acc : List Ty) (m : Nat) (i : Int) : gTs l acc (m + 1) i = if (gTy l i).e = 0 then gTs l (acc ++ [((gTy l i).k, (gTy l i).c)]) m (gTy l i).x else ⟨[], 0, (gTy l i).e⟩ := rfl
theorem gTy_ok (l : List Int) (i : Int) (hr : rng l) (h : (gTy l i).e = 0) :
    tyB (gTy l i).k (gTy l i).c ∧ mayT (gTy l i).k (gTy l i).c = true ∧ 0 ≤ i ∧ i < (gTy l i).x ∧ (gTy l i).x ≤ l.length ∧ gTy l i = gRet l i := by
  by_cases h1 : (gRet l i).e = 0 ∧ (gRet l i).k = 0
  · unfold gTy at h
    rw [if_pos h1] at h
    cases h
  · have he : gTy l i = gRet l i := by unfold gTy; rw [if_neg h1]
    rw [he] at h ⊢
    obtain ⟨h2, h3, h4, h5, h6, _⟩ := gRet_ok l i hr h
    refine ⟨h2, ?_, h4, h5, h6, rfl⟩
    rw [h3, decide_eq_false (fun hk => h1 ⟨h, hk⟩)]
    rfl
theorem rv_lit (w : World) (k c : Int) (h : tyB k c) : RV tyR (w.alloc (.cells #[.int .u8 k, .int .u16 c] 25)) (w.heap.size + 1) (some ⟨w.heap.size, 0, none⟩) 1 [(k, c)] := by
  have h1 := (OV.fresh (R := tyR) w 25 (fun _ => False) (fun h => h) [(k, c)] 1 rfl (by simp [maxLen]) (allok_one h)).rv
  rw [show enA tyR [(k, c)] = #[.int .u8 k, .int .u16 c] from rfl] at h1
  simpa using h1
set_option maxHeartbeats 1000000 in
theorem gettypes_any (n : Nat) (l : List Int) (i : Int) (m : Nat) (hm : m ≤ 255) (hn : n ≤ 281474976710656) (hl : l.length = n) (hr : rng l) (w : World) (A : Option Addr) (c B : Nat) (hrd : Rd w B A n l) (hc : n ≤ c) (hB : B ≤ w.heap.size) :
    Calls Try.prog 41 #[.slice A n c, .int .i64 i, .int .i64 m] w fun e w' => ∃ A' c', e = .returned (.tuple #[.slice A' (gTs l [] m i).ts.length c', .int .i64 (gTs l [] m i).x, .int .i64 (gTs l [] m i).e]) ∧
      OV tyR 25 w' (Lt w.heap.size) A' (gTs l [] m i).ts.length c' (gTs l [] m i).ts ∧ Below w.heap.size w w' := by
  have HG := Lib.hid (fun w i (hr2 : Rd w B A n l) (hB : B ≤ w.heap.size) => tget_any n l i hn hl hr w A c B hr2 hc hB)
  have HV := Lib.hid hrd
  have HR := Lib.hid hr
  clear hrd hr
  go_enter Try.func41, Try.ntmps41
  go_wp2_with fail
  go_loopw [1, 6, 13] (fun x v j' wr => ∃ (j d : Nat) (A' : Option Addr) (ts : List Ty) (X : Int), j ≤ m ∧ j' = .int .i64 j ∧ x = .int .i64 X ∧ v = .slice A' j d ∧ ts.length = j ∧ gTs l [] m i = gTs l ts (m - j) X ∧ OV tyR 25 wr (Lt w.heap.size) A' j d ts ∧ Below w.heap.size w wr) (fun _ _ j' _ => m - (intOf j').toNat)
  case atStart => exact ⟨0, 0, none, [], i, Nat.zero_le _, rfl, rfl, rfl, rfl, rfl, OV.nil_, Below.refl _ _⟩
  case round =>
    obtain ⟨j, d, A', ts, X, hj, rfl, rfl, rfl, htl, hg, hov, hbr⟩ := hrel
    have HT := Lib.hid htl
    have HO := Lib.hid hov
    have HB := Lib.hid hbr
    have hz := hbr.size
    by_cases hlt : j < m
    · obtain ⟨mm, hmm⟩ : ∃ mm, m - j = mm + 1 := ⟨m - j - 1, by omega⟩
      have hmm2 : m - (j + 1) = mm := by omega
      rw [hmm, gTs_succ] at hg
      have HM := Lib.hid hmm2
      have HGC := Lib.hid (HG.out wr X (HV.out.below hbr hB) (by omega))
      by_cases he : (gTy l X).e = 0
      · obtain ⟨hty, _, hx0, hx1, hx2, _⟩ := gTy_ok l X HR.out he
        rw [if_pos he] at hg
        have HGG := Lib.hid hg
        have HE := Lib.hid he
        rw [he] at HGC
        clear htl hov hbr hg hmm2 hmm he
        generalize gTy l X = g at HGG HE HGC hty hx0 hx1 hx2
        go_wp2_with fail
        refine HGC.out.mono ?_
        rintro e w1 ⟨rfl, hb1⟩
        have HRV := Lib.hid (rv_lit (w1.alloc (.cells #[.int .u8 g.k, .int .u16 g.c] 25)) g.k g.c hty)
        have z1 := hb1.size
        go_wp2_with (at_builtin; refine wpList_appV tyFit rfl _ _ rfl (Lt w.heap.size) A' j d ts rfl (((HO.out.below hb1).alloc _).alloc _) _ _ 1 1 [(g.k, g.c)] rfl (by simpa using HRV.out) (j + 1) rfl _ rfl (by omega) (fun q hq => by unfold Lt at hq; simp; omega) ?_; intro A2 c2 w2 ho2 hb2)
        go_roundw
        case rel => exact ⟨j + 1, c2, A2, ts ++ [(g.k, g.c)], g.x, by omega, by go_num, rfl, rfl, by rw [List.length_append, HT.out]; rfl, by rw [HM.out]; exact HGG.out, ho2, HB.out.trans ((((hb1.mono hz).alloc (by omega) _).alloc (by simp; omega) _).trans (hb2.below fun _ h => h))⟩
        case measure => simp [intOf]; omega
      · have hne : ((gTy l X).e != 0) = true := by simpa using he
        have h0 : gTy l X = ⟨0, 0, 0, (gTy l X).e⟩ := by
          unfold gTy
          by_cases h2 : (gRet l X).e = 0 ∧ (gRet l X).k = 0
          · rw [if_pos h2]
          · rw [if_neg h2]
            refine gRet_err l X HR.out (fun h3 => ?_)
            unfold gTy at he
            rw [if_neg h2] at he
            exact he h3
        rw [if_neg he] at hg
        have HGG := Lib.hid hg
        rw [h0] at HGC
        clear htl hov hbr hg hmm2 hmm he h0
        generalize (gTy l X).e = ee at HGG HGC hne
        go_wp2_with fail
        refine HGC.out.mono ?_
        rintro e w1 ⟨rfl, hb1⟩
        go_wp2_with fail
        go_returns
        rw [HGG.out]
        exact ⟨none, 0, rfl, OV.nil_, HB.out.trans ((hb1.mono hz).alloc (by have := hb1.size; omega) _)⟩
    · obtain rfl : j = m := by omega
      rw [Nat.sub_self, gTs_zero] at hg
      have HGG := Lib.hid hg
      clear htl hov hbr hg
      go_wp2_with fail
      go_returns
      rw [HGG.out]
      exact ⟨A', d, by rw [HT.out]; rfl, by rw [HT.out]; exact HO.out, HB.out⟩
/-! A signature. -/
structure GotS where
  k : Int
  c : Int
  ts : List Ty
  x : Int
  e : Int
def gSig (l : List Int) (i : Int) : GotS :=
  if (gRet l i).e = 0 then
    if (l.length : Int) = (gRet l i).x then ⟨0, 0, [], 0, 4⟩
    else if 15 < l.getD (gRet l i).x.toNat 0 then ⟨0, 0, [], 0, 5⟩
    else if (gTs l [] (l.getD (gRet l i).x.toNat 0).toNat ((gRet l i).x + 1)).e = 0 then
      ⟨(gRet l i).k, (gRet l i).c, (gTs l [] (l.getD (gRet l i).x.toNat 0).toNat ((gRet l i).x + 1)).ts, (gTs l [] (l.getD (gRet l i).x.toNat 0).toNat ((gRet l i).x + 1)).x, 0⟩
    else ⟨0, 0, [], 0, (gTs l [] (l.getD (gRet l i).x.toNat 0).toNat ((gRet l i).x + 1)).e⟩
  else ⟨0, 0, [], 0, (gRet l i).e⟩
theorem gTs_err (l : List Int) : ∀ (m : Nat) (acc : List Ty) (i : Int), ¬ (gTs l acc m i).e = 0 → gTs l acc m i = ⟨[], 0, (gTs l acc m i).e⟩
  | 0, acc, i, h => absurd rfl h
  | m + 1, acc, i, h => by
    rw [gTs_succ] at h ⊢
    by_cases he : (gTy l i).e = 0
    · rw [if_pos he] at h ⊢
      exact gTs_err l m _ _ h
    · rw [if_neg he]
theorem gSig_ways (l : List Int) (i : Int) (hr : rng l) :
    (∃ E, ¬ E = 0 ∧ gRet l i = ⟨0, 0, 0, E⟩ ∧ gSig l i = ⟨0, 0, [], 0, E⟩) ∨
    ∃ (k c : Int) (x : Nat), gRet l i = ⟨k, c, x, 0⟩ ∧ tyB k c ∧ (0 ≤ i ∧ i < x) ∧ x ≤ l.length ∧ mayT k c = (!decide (k = 0)) ∧ (k = 0 → c = 0) ∧
      ((l.length = x ∧ gSig l i = ⟨0, 0, [], 0, 4⟩) ∨ ∃ m : Nat, x < l.length ∧ l.getD x 0 = m ∧ m < 256 ∧
        ((15 < m ∧ gSig l i = ⟨0, 0, [], 0, 5⟩) ∨ (m ≤ 15 ∧ ∃ E, ¬ E = 0 ∧ gTs l [] m ((x : Int) + 1) = ⟨[], 0, E⟩ ∧ gSig l i = ⟨0, 0, [], 0, E⟩) ∨
          (m ≤ 15 ∧ ∃ ts y, gTs l [] m ((x : Int) + 1) = ⟨ts, y, 0⟩ ∧ gSig l i = ⟨k, c, ts, y, 0⟩))) := by
  by_cases h : (gRet l i).e = 0
  · right
    obtain ⟨h1, h2, h3, h4, h5, h6⟩ := gRet_ok l i hr h
    have hg : gRet l i = ⟨(gRet l i).k, (gRet l i).c, (gRet l i).x, 0⟩ := by rw [← h]
    unfold gSig
    rw [if_pos h]
    generalize gRet l i = g at h h1 h2 h3 h4 h5 h6 hg ⊢
    obtain ⟨k, c, X, e⟩ := g
    simp only at h h1 h2 h3 h4 h5 h6 hg ⊢
    obtain ⟨x, rfl⟩ : ∃ x : Nat, X = x := ⟨X.toNat, by omega⟩
    subst h
    refine ⟨k, c, x, rfl, h1, ⟨h3, h4⟩, by omega, h2, h6, ?_⟩
    by_cases h7 : (l.length : Int) = x
    · exact .inl ⟨by omega, by rw [if_pos h7]⟩
    · right
      rw [if_neg h7, Int.toNat_natCast]
      have hb := rng_getD hr x
      obtain ⟨m, hm⟩ : ∃ m : Nat, l.getD x 0 = m := ⟨(l.getD x 0).toNat, by omega⟩
      rw [hm] at hb ⊢
      refine ⟨m, by omega, rfl, by omega, ?_⟩
      by_cases h8 : 15 < (m : Int)
      · exact .inl ⟨by omega, by rw [if_pos h8]⟩
      · right
        rw [if_neg h8, Int.toNat_natCast]
        by_cases h9 : (gTs l [] m ((x : Int) + 1)).e = 0
        · right
          refine ⟨by omega, (gTs l [] m ((x : Int) + 1)).ts, (gTs l [] m ((x : Int) + 1)).x, by rw [← h9], by rw [if_pos h9]⟩
        · left
          exact ⟨by omega, _, h9, gTs_err l m [] _ h9, by rw [if_neg h9]⟩
  · exact .inl ⟨(gRet l i).e, h, gRet_err l i hr h, by unfold gSig; rw [if_neg h]⟩
def SGetSaid (f : Nat) (n : Nat) (l : List Int) (i : Int) (g : GotS) : Prop := ∀ (w : World) (A : Option Addr) (c B : Nat), Rd w B A n l → n ≤ c → B ≤ w.heap.size →
  Calls Try.prog f #[.slice A n c, .int .i64 i] w fun e w' => ∃ A' c', e = .returned (.tuple #[.agg #[.slice A' g.ts.length c', .int .u8 g.k, .int .u16 g.c], .int .i64 g.x, .int .i64 g.e]) ∧
    OV tyR 25 w' (Lt w.heap.size) A' g.ts.length c' g.ts ∧ Below w.heap.size w w'
end Go.Proofs.Ytihdfogcnghfaaa
