import Derived.Test.YtkdnnoioejfpgaaKc
set_option linter.unusedVariables false
set_option maxRecDepth 100000
namespace Go.Proofs.Ytkdnnoioejfpgaa
open Go.RowKit
/-! Get. -/
structure GotE where
  ts : List En
  e : Int
def entA (l : List Int) (i : Nat) : En := entC (l.getD i 0) (l.getD (i + 1) 0) (l.getD (i + 2) 0) (l.getD (i + 3) 0)
def gEs (l : List Int) : List En → Nat → Nat → GotE
  | acc, 0, i => if l.length = i then ⟨acc, 0⟩ else ⟨[], 5⟩
  | acc, m + 1, i => if l.length < i + 4 then ⟨[], 4⟩ else if mayE (entA l i) = true then gEs l (acc ++ [entA l i]) m (i + 4) else ⟨[], 5⟩
def gP (l : List Int) : GotE :=
  if l.length < 2 then ⟨[], 4⟩ else if 255 < 256 * l.getD 0 0 + l.getD 1 0 then ⟨[], 3⟩ else gEs l [] (256 * l.getD 0 0 + l.getD 1 0).toNat 2
theorem take_4 (l : List Int) (i : Nat) (h : i + 4 ≤ l.length) : (l.drop i).take 4 = [l.getD i 0, l.getD (i + 1) 0, l.getD (i + 2) 0, l.getD (i + 3) 0] := by
  rw [List.drop_eq_getElem_cons (show i < l.length by omega), List.drop_eq_getElem_cons (i := i + 1) (by omega), List.drop_eq_getElem_cons (i := i + 1 + 1) (by omega), List.drop_eq_getElem_cons (i := i + 1 + 1 + 1) (by omega)]
  simp only [List.take_succ_cons, List.take_zero, List.getD_eq_getElem?_getD]
  rw [List.getElem?_eq_getElem (show i < l.length by omega), List.getElem?_eq_getElem (show i + 1 < l.length by omega), List.getElem?_eq_getElem (show i + 2 < l.length by omega), List.getElem?_eq_getElem (show i + 3 < l.length by omega)]
  rfl
theorem take_2 (l : List Int) (h : 2 ≤ l.length) : (l.drop 0).take 2 = [l.getD 0 0, l.getD 1 0] := by
  match l, h with
  | a :: b :: l, _ => simp
theorem num7_2 (a b : Int) : num [a, b] = 256 * a + b := by simp [num]
theorem gEs_len (l : List Int) : ∀ (m : Nat) (acc : List En) (i : Nat), (gEs l acc m i).ts.length ≤ acc.length + m
  | 0, acc, i => by unfold gEs; split <;> simp
  | m + 1, acc, i => by
    unfold gEs
    split
    · simp
    · split
      · have := gEs_len l m (acc ++ [entA l i]) (i + 4)
        rw [List.length_append, List.length_singleton] at this
        omega
      · simp
theorem gP_len (l : List Int) (hr : rng l) : (gP l).ts.length ≤ 255 := by
  unfold gP
  split
  · simp
  · split
    · simp
    · have := gEs_len l (256 * l.getD 0 0 + l.getD 1 0).toNat [] 2
      rw [List.length_nil] at this
      omega
theorem entA_ok (l : List Int) (i : Nat) (hr : rng l) : enB (entA l i) := entC_ok _ _ _ _ (rng_getD hr _) (rng_getD hr _) (rng_getD hr _) (rng_getD hr _)
def GetESaid (f : Nat) (n : Nat) (l : List Int) (g : GotE) : Prop := ∀ (w : World) (A : Option Addr) (c B : Nat), Rd w B A n l → n ≤ c → B ≤ w.heap.size →
  Calls Try.prog f #[.slice A n c] w fun e w' => ∃ A' c', e = .returned (.tuple #[.slice A' g.ts.length c', .int .i64 g.e]) ∧ OV enR 45 w' (Lt w.heap.size) A' g.ts.length c' g.ts ∧ Below w.heap.size w w'
theorem lit_en (W : World) (z : En) (hz : enB z) : RV enR (W.alloc (.cells #[.int .u8 z.k, .int .u16 z.c, .int .u8 z.t, .bool z.o, .int .u16 z.n, .int .u8 z.i, .int .u8 z.x] 45)) (W.heap.size + 1) (some ⟨W.heap.size, 0, none⟩) 1 [z] := by
  have h := (OV.fresh (R := enR) W 45 (fun _ => False) (fun h => h) [z] 1 rfl (by simp [maxLen]) (allok_one hz)).rv
  have e : enA enR [z] = #[.int .u8 z.k, .int .u16 z.c, .int .u8 z.t, .bool z.o, .int .u16 z.n, .int .u8 z.i, .int .u8 z.x] := rfl
  rw [e] at h
  rwa [show (W.alloc (.cells #[.int .u8 z.k, .int .u16 z.c, .int .u8 z.t, .bool z.o, .int .u16 z.n, .int .u8 z.i, .int .u8 z.x] 45)).heap.size = W.heap.size + 1 by simp] at h
set_option maxHeartbeats 2000000 in
theorem get7_any (n : Nat) (l : List Int) (hn : n ≤ 281474976710656) (hl : l.length = n) (hr : rng l) : GetESaid 13 n l (gP l) := by
  intro w A c B hrd hc hB
  subst hl
  have HV := Lib.hid hrd
  have HRG := Lib.hid hr
  clear hrd
  obtain ⟨g, hg⟩ : ∃ g, g = gP l := ⟨_, rfl⟩
  rw [← hg]
  unfold gP at hg
  by_cases h2 : l.length < 2
  · rw [if_pos h2] at hg
    subst hg
    have HG := Lib.hid (fun w => get_short A l.length c (0 : Nat) 2 w hc hn (.inr (.inl rfl)) (by omega) (by omega) (by omega))
    clear hr h2
    go_enter Try.func13, Try.ntmps13
    go_wp2_with fail
    refine (HG.out _).mono ?_
    rintro e w1 ⟨rfl, rfl⟩
    go_wp2_with fail
    go_returns
    exact ⟨none, 0, rfl, OV.nil_, Below.refl _ _⟩
  · rw [if_neg h2] at hg
    have HG := Lib.hid (fun w (hr : Rd w B A l.length l) => get_ok A l.length c B 0 2 l w hc hn hr (.inr (.inl rfl)) (by omega))
    rw [take_2 l (by omega), num7_2] at HG
    have hb0 := rng_getD hr 0
    have hb1 := rng_getD hr 1
    obtain ⟨N, hN⟩ : ∃ N : Nat, 256 * l.getD 0 0 + l.getD 1 0 = (N : Int) := ⟨(256 * l.getD 0 0 + l.getD 1 0).toNat, by omega⟩
    have hN2 : N < 65536 := by omega
    rw [hN] at HG hg
    rw [Int.toNat_natCast] at hg
    clear hb0 hb1 hN hr
    by_cases h255 : 255 < N
    · rw [if_pos (by omega)] at hg
      subst hg
      have i255 : (N : Int) > 255 := by omega
      go_enter Try.func13, Try.ntmps13
      go_wp2_with fail
      refine (HG.out _ HV.out).mono ?_
      rintro e w1 ⟨rfl, rfl⟩
      go_wp2_with fail
      go_returns
      exact ⟨none, 0, rfl, OV.nil_, Below.refl _ _⟩
    · rw [if_neg (by omega)] at hg
      have i255 : ¬ (N : Int) > 255 := by omega
      have HGG := Lib.hid hg
      clear hg
      go_enter Try.func13, Try.ntmps13
      go_wp2_with fail
      refine (HG.out _ HV.out).mono ?_
      rintro e w1 ⟨rfl, rfl⟩
      go_wp2_with fail
      go_loopw [6, 7, 22] (fun v a i wr => ∃ (m d : Nat) (A' : Option Addr) (acc : List En), m ≤ N ∧ i = .int .u32 m ∧ a = .int .i64 (2 + 4 * m : Nat) ∧ v = .slice A' m d ∧ OV enR 45 wr (Lt w.heap.size) A' m d acc ∧ g = gEs l acc (N - m) (2 + 4 * m) ∧ 2 + 4 * m ≤ l.length ∧ Below w.heap.size w wr) (fun _ _ i _ => N - (intOf i).toNat)
      case atStart => exact ⟨0, 0, none, [], Nat.zero_le _, rfl, rfl, rfl, OV.nil_, HGG.out, by omega, Below.refl _ _⟩
      case round =>
        clear HGG HG
        obtain ⟨m, d, A', acc, hm, rfl, rfl, rfl, hor, hgr, hil, hbr⟩ := hrel
        have HO := Lib.hid hor
        have HB := Lib.hid hbr
        clear hor hbr
        by_cases hlt : m < N
        · rw [show N - m = (N - m - 1) + 1 by omega] at hgr
          unfold gEs at hgr
          by_cases h4 : l.length < 2 + 4 * m + 4
          · rw [if_pos h4] at hgr
            subst hgr
            have HG2 := Lib.hid (fun w => get_short A l.length c (2 + 4 * m : Nat) 4 w hc hn (.inr (.inr rfl)) (by omega) (by omega) (by omega))
            go_wp2_with fail
            refine (HG2.out _).mono ?_
            rintro e w1 ⟨rfl, rfl⟩
            go_wp2_with fail
            go_returns
            exact ⟨none, 0, rfl, OV.nil_, HB.out⟩
          · rw [if_neg h4] at hgr
            have HG2 := Lib.hid (fun w (hr : Rd w B A l.length l) => get_ok A l.length c B (2 + 4 * m) 4 l w hc hn hr (.inr (.inr rfl)) (by omega))
            rw [take_4 l (2 + 4 * m) (by omega)] at HG2
            have HE := Lib.hid (fun w => entry_any (l.getD (2 + 4 * m) 0) (l.getD (2 + 4 * m + 1) 0) (l.getD (2 + 4 * m + 2) 0) (l.getD (2 + 4 * m + 3) 0) w (rng_getD HRG.out _) (rng_getD HRG.out _) (rng_getD HRG.out _) (rng_getD HRG.out _))
            have hzok := entA_ok l (2 + 4 * m) HRG.out
            have HM := Lib.hid (fun w => may_any (entA l (2 + 4 * m)) w hzok)
            rw [show entC (l.getD (2 + 4 * m) 0) (l.getD (2 + 4 * m + 1) 0) (l.getD (2 + 4 * m + 2) 0) (l.getD (2 + 4 * m + 3) 0) = entA l (2 + 4 * m) from rfl] at HE
            generalize entA l (2 + 4 * m) = z at hgr hzok HM HE
            generalize num [l.getD (2 + 4 * m) 0, l.getD (2 + 4 * m + 1) 0, l.getD (2 + 4 * m + 2) 0, l.getD (2 + 4 * m + 3) 0] = V at HG2 HE
            have HZ := Lib.hid hzok
            have hz := HB.out.size
            have HLIT := Lib.hid (fun W => lit_en W z HZ.out)
            obtain ⟨k, cc, t, o, nn, i, x⟩ := z
            unfold En.val at HE HM
            simp only at HE HM HLIT
            clear hzok
            cases hmz : mayE ⟨k, cc, t, o, nn, i, x⟩
            · rw [hmz] at HM
              rw [if_neg (by rw [hmz]; decide)] at hgr
              subst hgr
              clear hmz
              go_wp2_with fail
              refine (HG2.out _ (HV.out.below HB.out hB)).mono ?_
              rintro e w1 ⟨rfl, rfl⟩
              go_wp2_with fail
              refine (HE.out _).mono ?_
              rintro e w2 ⟨rfl, hb2⟩
              have HB2 := Lib.hid (HB.out.trans (hb2.mono hz))
              clear hb2
              go_wp2_with fail
              refine (HM.out _).mono ?_
              rintro e w3 ⟨rfl, hb3⟩
              have HB3 := Lib.hid ((HB2.out.alloc HB2.out.size _).trans (hb3.mono (by have := HB2.out.size; simp; omega)))
              go_wp2_with fail
              go_returns
              exact ⟨none, 0, rfl, OV.nil_, HB3.out⟩
            · rw [hmz] at HM
              rw [if_pos hmz] at hgr
              have HGR := Lib.hid hgr
              clear hmz hgr
              go_wp2_with fail
              refine (HG2.out _ (HV.out.below HB.out hB)).mono ?_
              rintro e w1 ⟨rfl, rfl⟩
              go_wp2_with fail
              refine (HE.out _).mono ?_
              rintro e w2 ⟨rfl, hb2⟩
              have HB2 := Lib.hid (HB.out.trans (hb2.mono hz))
              have HO2 := Lib.hid (HO.out.below hb2)
              have HX := Lib.hid (Blk.new w2 #[.int .u8 k, .int .u16 cc, .int .u8 t, .bool o, .int .u16 nn, .int .u8 i, .int .u8 x] 45)
              clear hb2
              go_wp2_with fail
              refine (HM.out _).mono ?_
              rintro e w3 ⟨rfl, hb3⟩
              have X3 := HX.out.below hb3
              have HB3 := Lib.hid ((HB2.out.alloc HB2.out.size _).trans (hb3.mono (by have := HB2.out.size; simp; omega)))
              have HO3 := Lib.hid ((HO2.out.alloc _).below hb3)
              have g0 : w3.cell? ⟨w2.heap.size, 0, none⟩ = some (.int .u8 k) := X3.cell 0
              have g1 : w3.cell? ⟨w2.heap.size, 1, none⟩ = some (.int .u16 cc) := X3.cell 1
              have g2 : w3.cell? ⟨w2.heap.size, 2, none⟩ = some (.int .u8 t) := X3.cell 2
              have g3 : w3.cell? ⟨w2.heap.size, 3, none⟩ = some (.bool o) := X3.cell 3
              have g4 : w3.cell? ⟨w2.heap.size, 4, none⟩ = some (.int .u16 nn) := X3.cell 4
              have g5 : w3.cell? ⟨w2.heap.size, 5, none⟩ = some (.int .u8 i) := X3.cell 5
              have g6 : w3.cell? ⟨w2.heap.size, 6, none⟩ = some (.int .u8 x) := X3.cell 6
              have z3 := HB3.out.size
              have z4 : w2.heap.size < w3.heap.size := X3.lt
              clear hb3 X3 HX
              go_wp2_with (at_builtin; refine wpList_appV enFit rfl _ _ rfl (Lt w.heap.size) A' m d acc rfl (HO3.out.alloc _) _ _ 1 1 [⟨k, cc, t, o, nn, i, x⟩] rfl (HLIT.out w3) (m + 1) rfl _ rfl (by omega) (fun j hj => by unfold Lt at hj; simp; omega) ?_; intro A4 d4 w4 ho4 hb4)
              have HB4 := (HB3.out.alloc z3 _).trans (hb4.below (B := w.heap.size) fun _ h => h)
              go_roundw
              case rel => exact ⟨m + 1, d4, A4, _, by omega, by go_num, by go_num, rfl, ho4, by rw [show N - (m + 1) = N - m - 1 by omega]; exact HGR.out, by omega, HB4⟩
              case measure => simp [intOf]; omega
        · obtain rfl : m = N := by omega
          rw [Nat.sub_self] at hgr
          unfold gEs at hgr
          by_cases hfin : l.length = 2 + 4 * m
          · rw [if_pos hfin] at hgr
            subst hgr
            have hlen := HO.out.len
            have hE : (2 + 4 * (m : Int) != (l.length : Int)) = false := by rw [hfin]; simp
            have HA := Lib.hid hlen
            go_wp2_with fail
            go_returns
            exact ⟨A', d, rfl, HO.out, HB.out⟩
          · rw [if_neg hfin] at hgr
            subst hgr
            have hE : (2 + 4 * (m : Int) != (l.length : Int)) = true := by simp; omega
            go_wp2_with fail
            go_returns
            exact ⟨none, 0, rfl, OV.nil_, HB.out⟩
end Go.Proofs.Ytkdnnoioejfpgaa
