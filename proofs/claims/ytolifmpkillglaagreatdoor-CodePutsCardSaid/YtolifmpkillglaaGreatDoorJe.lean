import Derived.Test.YtolifmpkillglaaGreatDoorIf
import Derived.Test.YtolifmpkillglaaGreatDoorIj
import Derived.Test.YtolifmpkillglaaGreatDoorHb
set_option linter.unusedVariables false
set_option maxRecDepth 100000
namespace Go.Proofs.YtolifmpkillglaaGreatDoor
open Go.RowKit
/-! Sizes; the same instructions. -/
set_option maxHeartbeats 1000000 in
theorem eqI_any (A1 A2 : Option Addr) (n c1 c2 B1 B2 : Nat) (l : List Int) (w : World) (hn : n ≤ 281474976710656) (h1 : RV inR w B1 A1 n l) (h2 : RV inR w B2 A2 n l) :
    Calls Tryz.prog 26 #[.slice A1 n c1, .slice A2 n c2] w fun e w' => e = .returned (.bool true) ∧ ∃ q, w' = w.drewN q := by
  have hneq : ((n : Int) != (n : Int)) = false := by simp
  have H1 := Lib.hid h1
  have H2 := Lib.hid h2
  clear h1 h2
  go_enter Tryz.func26, Tryz.ntmps26
  go_wp2_with fail
  go_loopw [13] (fun i wr => ∃ k q : Nat, k ≤ n ∧ i = .int .i64 k ∧ wr = w.drewN q) (fun i _ => n - (intOf i).toNat)
  case atStart => exact ⟨0, 0, Nat.zero_le _, rfl, rfl⟩
  case round =>
    obtain ⟨k, q, hk, rfl, rfl⟩ := hrel
    have i0 : (0 : Int) ≤ (k : Int) := by omega
    by_cases hlt : (k : Int) < (n : Int)
    · obtain ⟨b1, o1, rfl, _, g1⟩ := H1.out.in1 k (by omega)
      obtain ⟨b2, o2, rfl, _, g2⟩ := H2.out.in1 k (by omega)
      generalize l.getD k 0 = x at g1 g2
      have b2' : (x != x) = false := by simp
      go_wp2_with fail
      go_quiet (fail)
      go_wp2_with fail
      go_roundw
      case rel => exact ⟨k + 1, _, by omega, by go_num, rfl⟩
      case measure => simp [intOf]; omega
    · obtain rfl : k = n := by omega
      go_wp2_with fail
      go_returns
      exact ⟨rfl, q, rfl⟩
set_option maxHeartbeats 1000000 in
theorem eqW_any (A1 A2 : Option Addr) (n c1 c2 B1 B2 : Nat) (l : List Int) (w : World) (hn : n ≤ 281474976710656) (h1 : RV woR w B1 A1 n l) (h2 : RV woR w B2 A2 n l) :
    Calls Tryz.prog 27 #[.slice A1 n c1, .slice A2 n c2] w fun e w' => e = .returned (.bool true) ∧ ∃ q, w' = w.drewN q := by
  have hneq : ((n : Int) != (n : Int)) = false := by simp
  have H1 := Lib.hid h1
  have H2 := Lib.hid h2
  clear h1 h2
  go_enter Tryz.func27, Tryz.ntmps27
  go_wp2_with fail
  go_loopw [13] (fun i wr => ∃ k q : Nat, k ≤ n ∧ i = .int .i64 k ∧ wr = w.drewN q) (fun i _ => n - (intOf i).toNat)
  case atStart => exact ⟨0, 0, Nat.zero_le _, rfl, rfl⟩
  case round =>
    obtain ⟨k, q, hk, rfl, rfl⟩ := hrel
    have i0 : (0 : Int) ≤ (k : Int) := by omega
    by_cases hlt : (k : Int) < (n : Int)
    · obtain ⟨b1, o1, rfl, _, g1⟩ := H1.out.wo1 k (by omega)
      obtain ⟨b2, o2, rfl, _, g2⟩ := H2.out.wo1 k (by omega)
      generalize l.getD k 0 = x at g1 g2
      have b2' : (x != x) = false := by simp
      go_wp2_with fail
      go_quiet (fail)
      go_wp2_with fail
      go_roundw
      case rel => exact ⟨k + 1, _, by omega, by go_num, rfl⟩
      case measure => simp [intOf]; omega
    · obtain rfl : k = n := by omega
      go_wp2_with fail
      go_returns
      exact ⟨rfl, q, rfl⟩
def sizeP (x : Ins) : Nat := if (ofC x.sc.op).2 = 0 then 1 + hdS (kO x.sc.op) + x.tab.length * rwS (kO x.sc.op) else 0
set_option maxHeartbeats 2000000 in
theorem size_any (x : Ins) (r : RI) (w : World) (B : Nat) (T : Tab w) (h : InsR w B r x) (o0 : 0 ≤ x.sc.op) (o1 : x.sc.op < 256) (hn : r.tn ≤ 70000) :
    Calls Tryz.prog 7 #[r.val] w fun e w' => e = .returned (.int .i64 (sizeP x)) ∧ Below w.heap.size w w' := by
  obtain ⟨hsc, ht, hm, hle, hle2⟩ := h
  obtain ⟨⟨s0, s1, s2, s3, s4, s5, s6, s7⟩, tA, tn, tc, mA, mn, mc⟩ := r
  obtain ⟨sc, tab, mat⟩ := x
  simp only at hsc
  subst hsc
  unfold sizeP RI.val
  simp only at ht hm hle hn o0 o1 ⊢
  have hl := ht.len
  rw [hl]
  have HO := Lib.hid (of_any s1 o0 o1)
  obtain ⟨on, hon⟩ : ∃ on : Nat, s1 = on := ⟨s1.toNat, by omega⟩
  have hok := ofC_ok on (by omega)
  rw [← hon] at hok
  obtain ⟨k, hk⟩ : ∃ k, kO s1 = k := ⟨_, rfl⟩
  rw [hk] at hok ⊢
  rcases hof : ofC s1 with ⟨⟨x0, x1, x2, x3, x4, x5, x6⟩, er⟩
  rw [hof] at HO hok
  unfold OfSaid at HO
  simp only [Inf.val] at HO
  simp only at hok ⊢
  clear hof hon hk ht hm
  have HT := Lib.hid (T.alloc (.cells #[.int .i64 s0, .int .u8 s1, .int .i64 s2, .int .u8 s3, .int .u16 s4, .int .i64 s5, .int .i64 s6, .slice tA tn tc, .slice mA mn mc, .int .u16 s7] 28))
  have HY := Lib.hid (Blk.new w #[.int .i64 s0, .int .u8 s1, .int .i64 s2, .int .u8 s3, .int .u16 s4, .int .i64 s5, .int .i64 s6, .slice tA tn tc, .slice mA mn mc, .int .u16 s7] 28)
  have HK := Lib.hid (below_new w (.cells #[.int .i64 s0, .int .u8 s1, .int .i64 s2, .int .u8 s3, .int .u16 s4, .int .i64 s5, .int .i64 s6, .slice tA tn tc, .slice mA mn mc, .int .u16 s7] 28))
  have hsz : (w.alloc (.cells #[.int .i64 s0, .int .u8 s1, .int .i64 s2, .int .u8 s3, .int .u16 s4, .int .i64 s5, .int .i64 s6, .slice tA tn tc, .slice mA mn mc, .int .u16 s7] 28)).heap.size = w.heap.size + 1 := by simp
  clear T
  by_cases her : er = 0
  · subst her
    obtain ⟨-, hx2, hk12, -⟩ := hok rfl
    subst hx2
    rw [if_pos rfl]
    obtain ⟨M, hM⟩ : ∃ M : Nat, tn * rwS k = M := ⟨_, rfl⟩
    obtain ⟨rs, hrs⟩ : ∃ q, rwS k = q := ⟨_, rfl⟩
    obtain ⟨hs, hhs⟩ : ∃ q, hdS k = q := ⟨_, rfl⟩
    have HR := Lib.hid (fun W => rw_any k hk12 W)
    have HH := Lib.hid (fun W => hd_any k hk12 W)
    have hM4 : M ≤ 280000 := by
      have h4 : rwS k ≤ 4 := by unfold rwS; split <;> omega
      rw [← hM]
      have := Nat.mul_le_mul_left tn h4
      omega
    have hs6 : hs ≤ 6 := by rw [← hhs]; unfold hdS; split <;> omega
    rw [hrs] at HR hM
    rw [hhs] at HH
    have hMI : ((tn : Int) * (rs : Int)) = (M : Int) := by rw [← hM]; exact (Int.natCast_mul _ _).symm
    have hMw : IntKind.i64.wrap (M : Int) = (M : Int) := IntWalk.i64_in _ (by omega)
    have hw1 : IntKind.i64.wrap ((1 : Int) + (hs : Int)) = 1 + (hs : Int) := IntWalk.i64_in _ (by omega)
    have hw2 : IntKind.i64.wrap ((1 : Int) + (hs : Int) + (M : Int)) = 1 + (hs : Int) + (M : Int) := IntWalk.i64_in _ (by omega)
    rw [hrs, hhs, hM]
    have HRES := Lib.hid (show ((1 + hs + M : Nat) : Int) = 1 + (hs : Int) + (M : Int) by omega)
    clear hM hrs hhs hok
    go_enter Tryz.func7, Tryz.ntmps7
    go_upto_region 1 with (fail)
    generalize w.alloc (.cells #[.int .i64 s0, .int .u8 s1, .int .i64 s2, .int .u8 s3, .int .u16 s4, .int .i64 s5, .int .i64 s6, .slice tA tn tc, .slice mA mn mc, .int .u16 s7] 28) = w1 at HT HY HK hsz ⊢
    have y1 : w1.cell? ⟨w.heap.size, 1, none⟩ = some (.int .u8 s1) := HY.out.cell 1
    go_wp2_with fail
    refine (HO.out _ HT.out).mono ?_
    rintro e w2 ⟨rfl, b2⟩
    have hz2 := b2.size
    have HY := Lib.hid ((HY.out.below b2).alloc (.cells #[.int .u8 x0, .string ⟨x1.toArray⟩, .int .u8 k, .int .i64 x3, .int .i64 x4, .bool x5, .bool x6] 46))
    have HK := Lib.hid ((HK.out.trans (b2.mono (by omega))).alloc (by omega) (.cells #[.int .u8 x0, .string ⟨x1.toArray⟩, .int .u8 k, .int .i64 x3, .int .i64 x4, .bool x5, .bool x6] 46))
    have HI := Lib.hid (Blk.new w2 #[.int .u8 x0, .string ⟨x1.toArray⟩, .int .u8 k, .int .i64 x3, .int .i64 x4, .bool x5, .bool x6] 46)
    clear b2 y1 HT
    go_upto_region 2 with (fail)
    generalize w2.alloc (.cells #[.int .u8 x0, .string ⟨x1.toArray⟩, .int .u8 k, .int .i64 x3, .int .i64 x4, .bool x5, .bool x6] 46) = w3 at HY HK HI ⊢
    have q2 : w3.cell? ⟨w2.heap.size, 2, none⟩ = some (.int .u8 k) := HI.out.cell 2
    have y7 : w3.cell? ⟨w.heap.size, 7, none⟩ = some (.slice tA tn tc) := HY.out.cell 7
    go_upto_region 4 with (fail)
    go_quiet (first | (with_reducible exact Calls.quiet_of_same (HH.out _)) | (with_reducible exact Calls.quiet_of_same (HR.out _)))
    go_wp2_with fail
    go_returns
    exact ⟨by rw [HRES.out]; rfl, below_drewN HK.out _⟩
  · rw [if_neg her]
    have her2 : (er != 0) = true := by simpa using her
    clear hok her
    go_enter Tryz.func7, Tryz.ntmps7
    go_upto_region 1 with (fail)
    generalize w.alloc (.cells #[.int .i64 s0, .int .u8 s1, .int .i64 s2, .int .u8 s3, .int .u16 s4, .int .i64 s5, .int .i64 s6, .slice tA tn tc, .slice mA mn mc, .int .u16 s7] 28) = w1 at HT HY HK hsz ⊢
    have y1 : w1.cell? ⟨w.heap.size, 1, none⟩ = some (.int .u8 s1) := HY.out.cell 1
    go_wp2_with fail
    refine (HO.out _ HT.out).mono ?_
    rintro e w2 ⟨rfl, b2⟩
    have hz2 := b2.size
    have HK := Lib.hid ((HK.out.trans (b2.mono (by omega))).alloc (by omega) (.cells #[.int .u8 x0, .string ⟨x1.toArray⟩, .int .u8 x2, .int .i64 x3, .int .i64 x4, .bool x5, .bool x6] 46))
    clear b2 y1 HT
    go_upto_region 2 with (fail)
    generalize w2.alloc (.cells #[.int .u8 x0, .string ⟨x1.toArray⟩, .int .u8 x2, .int .i64 x3, .int .i64 x4, .bool x5, .bool x6] 46) = w3 at HK ⊢
    go_wp2_with fail
    go_returns
    exact ⟨rfl, HK.out⟩
/-- Two blocks of instructions' fields. -/
theorem two_box (w : World) (c1 c2 : Array Value) (t : TypeId) : Blk ((w.alloc (.cells c1 t)).alloc (.cells c2 t)) w.heap.size c1 t ∧ Blk ((w.alloc (.cells c1 t)).alloc (.cells c2 t)) (w.heap.size + 1) c2 t ∧ Below w.heap.size w ((w.alloc (.cells c1 t)).alloc (.cells c2 t)) := by
  have h := Blk.new (w.alloc (.cells c1 t)) c2 t
  have e : (w.alloc (.cells c1 t)).heap.size = w.heap.size + 1 := by simp
  rw [e] at h
  exact ⟨(Blk.new w c1 t).alloc _, h, (below_new w _).alloc (by simp) _⟩
set_option maxHeartbeats 2000000 in
theorem same_eq (x : Ins) (r1 r2 : RI) (w : World) (B1 B2 : Nat) (h1 : InsR w B1 r1 x) (h2 : InsR w B2 r2 x) (hB1 : B1 ≤ w.heap.size) (hB2 : B2 ≤ w.heap.size) (ht : r1.tn ≤ 70000) (hm : r1.mn ≤ 70000) :
    Calls Tryz.prog 13 #[r1.val, r2.val] w fun e w' => e = .returned (.bool true) ∧ Below w.heap.size w w' := by
  obtain ⟨hsc1, t1, m1, _, _⟩ := h1
  obtain ⟨hsc2, t2, m2, _, _⟩ := h2
  have hsc := hsc1.trans hsc2.symm
  clear hsc1 hsc2
  obtain ⟨⟨s0, s1, s2, s3, s4, s5, s6, s7⟩, tA, tn, tc, mA, mn, mc⟩ := r1
  obtain ⟨sc2, tA2, tn2, tc2, mA2, mn2, mc2⟩ := r2
  obtain ⟨_, tab, mat⟩ := x
  simp only at hsc t1 m1 t2 m2 ht hm
  subst hsc
  have e1 : tn = tn2 := by rw [← t1.len, ← t2.len]
  have e2 : mn = mn2 := by rw [← m1.len, ← m2.len]
  subst e1 e2
  unfold RI.val
  simp only
  obtain ⟨X, Y, bx⟩ := two_box w #[.int .i64 s0, .int .u8 s1, .int .i64 s2, .int .u8 s3, .int .u16 s4, .int .i64 s5, .int .i64 s6, .slice tA tn tc, .slice mA mn mc, .int .u16 s7] #[.int .i64 s0, .int .u8 s1, .int .i64 s2, .int .u8 s3, .int .u16 s4, .int .i64 s5, .int .i64 s6, .slice tA2 tn tc2, .slice mA2 mn mc2, .int .u16 s7] 28
  have HX := Lib.hid X
  have HY := Lib.hid Y
  have HB := Lib.hid bx
  have HB0 := Lib.hid bx
  have HI : Hid (∀ W, Below w.heap.size w W → Calls Tryz.prog 26 #[.slice tA tn tc, .slice tA2 tn tc2] W fun e w' => e = .returned (.bool true) ∧ ∃ q, w' = W.drewN q) := Lib.hid (fun W hW => eqI_any tA tA2 tn tc tc2 B1 B2 tab W (by omega) (t1.below hW hB1) (t2.below hW hB2))
  have HW : Hid (∀ W, Below w.heap.size w W → Calls Tryz.prog 27 #[.slice mA mn mc, .slice mA2 mn mc2] W fun e w' => e = .returned (.bool true) ∧ ∃ q, w' = W.drewN q) := Lib.hid (fun W hW => eqW_any mA mA2 mn mc mc2 B1 B2 mat W (by omega) (m1.below hW hB1) (m2.below hW hB2))
  clear X Y bx t1 t2 m1 m2
  go_enter Tryz.func13, Tryz.ntmps13
  go_upto_region 1 with (fail)
  generalize (w.alloc (.cells #[.int .i64 s0, .int .u8 s1, .int .i64 s2, .int .u8 s3, .int .u16 s4, .int .i64 s5, .int .i64 s6, .slice tA tn tc, .slice mA mn mc, .int .u16 s7] 28)).alloc (.cells #[.int .i64 s0, .int .u8 s1, .int .i64 s2, .int .u8 s3, .int .u16 s4, .int .i64 s5, .int .i64 s6, .slice tA2 tn tc2, .slice mA2 mn mc2, .int .u16 s7] 28) = w1 at HX HY HB HB0 ⊢
  have x0 : w1.cell? ⟨w.heap.size, 0, none⟩ = some _ := HX.out.cell 0
  have z0 : w1.cell? ⟨w.heap.size + 1, 0, none⟩ = some _ := HY.out.cell 0
  have x1 : w1.cell? ⟨w.heap.size, 1, none⟩ = some _ := HX.out.cell 1
  have z1 : w1.cell? ⟨w.heap.size + 1, 1, none⟩ = some _ := HY.out.cell 1
  have x2 : w1.cell? ⟨w.heap.size, 2, none⟩ = some _ := HX.out.cell 2
  have z2 : w1.cell? ⟨w.heap.size + 1, 2, none⟩ = some _ := HY.out.cell 2
  have x3 : w1.cell? ⟨w.heap.size, 3, none⟩ = some _ := HX.out.cell 3
  have z3 : w1.cell? ⟨w.heap.size + 1, 3, none⟩ = some _ := HY.out.cell 3
  have x4 : w1.cell? ⟨w.heap.size, 4, none⟩ = some _ := HX.out.cell 4
  have z4 : w1.cell? ⟨w.heap.size + 1, 4, none⟩ = some _ := HY.out.cell 4
  have x5 : w1.cell? ⟨w.heap.size, 5, none⟩ = some _ := HX.out.cell 5
  have z5 : w1.cell? ⟨w.heap.size + 1, 5, none⟩ = some _ := HY.out.cell 5
  have x6 : w1.cell? ⟨w.heap.size, 6, none⟩ = some _ := HX.out.cell 6
  have z6 : w1.cell? ⟨w.heap.size + 1, 6, none⟩ = some _ := HY.out.cell 6
  have x7 : w1.cell? ⟨w.heap.size, 7, none⟩ = some _ := HX.out.cell 7
  have z7 : w1.cell? ⟨w.heap.size + 1, 7, none⟩ = some _ := HY.out.cell 7
  have x8 : w1.cell? ⟨w.heap.size, 8, none⟩ = some _ := HX.out.cell 8
  have z8 : w1.cell? ⟨w.heap.size + 1, 8, none⟩ = some _ := HY.out.cell 8
  have x9 : w1.cell? ⟨w.heap.size, 9, none⟩ = some _ := HX.out.cell 9
  have z9 : w1.cell? ⟨w.heap.size + 1, 9, none⟩ = some _ := HY.out.cell 9
  go_wp2_with (first | ((with_reducible refine (HI.out _ HB.out).mono ?_); rintro e w5 ⟨rfl, q5, rfl⟩; have HB := Lib.hid (below_drewN HB.out q5)) | ((with_reducible refine (HW.out _ HB.out).mono ?_); rintro e w6 ⟨rfl, q6, rfl⟩; have HB := Lib.hid (below_drewN HB.out q6)))
  go_returns
  exact ⟨rfl, below_drewN HB0.out _⟩
end Go.Proofs.YtolifmpkillglaaGreatDoor
