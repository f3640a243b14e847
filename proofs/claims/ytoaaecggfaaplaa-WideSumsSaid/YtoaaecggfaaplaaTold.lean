/-
Contracts: the reference's Wide, the law's Big and Told. No statement is proved here.
-/
import Derived.Test.YtoaaecggfaaplaaWid4
namespace Go.Proofs.Ytoaaecggfaaplaa
open Go.RowKit

set_option maxHeartbeats 1000000 in
theorem RWide_any (hi : Int) (lo : Nat) (w : World) (h1 : -9223372036854775808 ≤ hi) (h2 : hi ≤ 9223372036854775807) (h3 : lo < 18446744073709551616) :
    Calls Try.prog 33 #[.int .i64 hi, .int .u64 lo] w (MadeB w 10 (hi * 18446744073709551616 + lo)) := by
  have HO := hide (fun w => Of_any hi w h1 h2)
  have HP := hide (fun w => Pow_any 64 (by omega) w)
  have HU := hide (fun w => Uns_any lo w h3)
  have hz : (hi * 18446744073709551616 + lo).natAbs < 32768 ^ 10 := by
    have : (32768 : Nat) ^ 10 = 1427247692705959881058285969449495136382746624 := by decide
    omega
  have HZ := hide hz
  have H := hide (below_alloc w)
  clear h1 h2 h3 hz
  go_enter Try.func33, Try.ntmps33
  go_wp2_with fail
  refine (HO.out _).mono ?_
  rintro e w1 ⟨s1, A1, n1, c1, rfl, hB1, hb1⟩
  have hx1 := (Box.new w #[.bool false, .slice none 0 0] 27 (by decide)).below hb1
  have Hb1 := hide ((H.out _).trans (hb1.mono (by simp)))
  obtain ⟨hc, hf⟩ := bcell hb1
  have z1 : w.heap.size < w1.heap.size := by have := hb1.size; simp at this; omega
  have y0 : w1.cell? ⟨w.heap.size, 0, none⟩ = some (.bool false) := by rw [hc _ _ (by simp)]; simp [go_sem]
  have y1 : w1.cell? ⟨w.heap.size, 1, none⟩ = some (.slice none 0 0) := by rw [hc _ _ (by simp)]; simp [go_sem]
  have y2 : w1.frozen? ⟨w.heap.size, 0, none⟩ = false := by rw [hf _ _ (by simp)]; simp [go_sem]
  have y3 : w1.frozen? ⟨w.heap.size, 1, none⟩ = false := by rw [hf _ _ (by simp)]; simp [go_sem]
  have HB1 := hide hB1
  have HX1 := hide hx1
  clear hb1 hc hf hB1 hx1
  go_wp2_with fail
  refine (HP.out _).mono ?_
  rintro e w2 ⟨s2, A2, n2, c2, rfl, hB2, hb2⟩
  have HB2 := hide hB2
  have HB1' := hide (HB1.out.below hb2)
  have Hb2 := hide hb2
  clear hb2 hB2
  go_wp2_with fail
  refine (Mul_any 5 69 (by omega) (by omega) _ _ _ _ _ _ _ _ _ _ _ HB1'.out HB2.out).mono ?_
  rintro e w3 ⟨s3, A3, n3, c3, rfl, hB3, hb3⟩
  have HB3 := hide hB3
  have Hb3 := hide (Hb2.out.trans (hb3.mono Hb2.out.size))
  clear hb3 hB3
  go_wp2_with fail
  refine (HU.out _).mono ?_
  rintro e w4 ⟨s4, A4, n4, c4, rfl, hB4, hb4⟩
  have HB4 := hide hB4
  have HB3' := hide (HB3.out.below hb4)
  have Hb4 := hide (Hb3.out.trans (hb4.mono Hb3.out.size))
  clear hb4 hB4
  go_wp2_with fail
  refine (Add_any 75 (by omega) _ _ _ _ _ _ _ _ _ _ _ HB3'.out (HB4.out.more (by omega))).mono ?_
  rintro e w5 ⟨s5, A5, n5, c5, rfl, hB5, hb5⟩
  have Hb5 := hide (Hb4.out.trans (hb5.mono Hb4.out.size))
  have HB5 := hide (BV.tight (M := 10) hB5 (by simpa using HZ.out))
  clear hb5 hB5
  obtain ⟨hc, hf⟩ := bcell Hb5.out
  have x0 := (hc w.heap.size 0 z1).trans y0
  have x1 := (hc w.heap.size 1 z1).trans y1
  have x2 := (hf w.heap.size 0 z1).trans y2
  have x3 := (hf w.heap.size 1 z1).trans y3
  have HX5 := hide (HX1.out.below Hb5.out)
  clear hc hf
  go_wp2_with fail
  refine bodyPost_ret (v := .agg #[.bool s5, .slice A5 n5 c5]) (by simp [results, Try.results33, go_sem, x0, x1]) rfl ?_
  have hfin := HB5.out
  rw [show (hi * 2 ^ 64 + (lo : Int)) = hi * 18446744073709551616 + (lo : Int) by simp] at hfin
  exact MadeB.fin (Hb1.out.trans (Hb5.out.mono (Nat.le_of_lt z1))) (Nat.le_refl _) HX5.out hfin _ _

set_option maxHeartbeats 400000 in
theorem LBig_any (hi : Int) (lo : Nat) (z : Int) (h : Num hi lo z) (w : World) :
    Calls Try.prog 8 #[.agg #[.int .i64 hi, .int .u64 lo]] w (MadeB w 10 z) := by
  have HW := hide (fun w => RWide_any hi lo w (by unfold Num at h; omega) (by unfold Num at h; omega) (by unfold Num at h; omega))
  rw [show hi * 18446744073709551616 + (lo : Int) = z by unfold Num at h; omega] at HW
  have H := hide (below_alloc2 w)
  clear h
  go_enter Try.func8, Try.ntmps8
  go_wp2_with fail
  refine (HW.out _).mono ?_
  rintro e w1 ⟨s', A', n', c', rfl, hB, hb⟩
  obtain ⟨hc, hf⟩ := bcell hb
  have hz := hb.size
  simp at hz
  have HB := hide hB
  have Hb := hide hb
  have HX := hide ((Box.new _ _ _ (by decide)).below hb)
  simp at HX
  clear hB hb
  go_wp2_with fail
  refine bodyPost_ret (v := .agg #[.bool s', .slice A' n' c']) (by simp [results, Try.results8, go_sem, hc]) rfl ?_
  exact MadeB.fin ((H.out _ _).trans (Hb.out.mono (by simp; omega))) (by omega) HX.out HB.out _ _

/-- a box of a number and a box of a whole number -/
def TwoB (w : World) (hi : Int) (lo : Nat) (s : Bool) (A : Option Addr) (n c : Nat) : World :=
  (w.alloc (.cells #[.int .i64 hi, .int .u64 lo] 24)).alloc (.cells #[.bool s, .slice A n c] 27)
theorem TwoB.below (w : World) (hi : Int) (lo : Nat) (s : Bool) (A : Option Addr) (n c : Nat) : Below w.heap.size w (TwoB w hi lo s A n c) := below_alloc2 w _ _
theorem TwoB.size (w : World) (hi : Int) (lo : Nat) (s : Bool) (A : Option Addr) (n c : Nat) : (TwoB w hi lo s A n c).heap.size = w.heap.size + 2 := by simp [TwoB]
theorem TwoB.args (w : World) (hi : Int) (lo : Nat) (s : Bool) (A : Option Addr) (n c : Nat) (w' : World) (h : Bel (TwoB w hi lo s A n c) w') :
    w'.cell? ⟨w.heap.size, 0, none⟩ = some (.int .i64 hi) ∧ w'.cell? ⟨w.heap.size, 1, none⟩ = some (.int .u64 lo) ∧ w'.cell? ⟨w.heap.size + 1, 0, none⟩ = some (.bool s) ∧ w'.cell? ⟨w.heap.size + 1, 1, none⟩ = some (.slice A n c) := by
  have hz := TwoB.size w hi lo s A n c
  refine ⟨?_, ?_, ?_, ?_⟩
  · rw [h.cell 0 (by omega)]; simp [TwoB, go_sem]
  · rw [h.cell 1 (by omega)]; simp [TwoB, go_sem]
  · rw [h.cell 0 (by omega)]; simp [TwoB, go_sem]
  · rw [h.cell 1 (by omega)]; simp [TwoB, go_sem]

set_option maxHeartbeats 2000000 in
theorem Told_fit (N : Nat) (hN : N ≤ 100000) (hi : Int) (lo : Nat) (z : Int) (s : Bool) (A : Option Addr) (n c : Nat) (w : World) (h : Num hi lo z) (hb : BV w N s A n c z) :
    Calls Try.prog 12 #[.agg #[.int .i64 hi, .int .u64 lo], .bool true, .agg #[.bool s, .slice A n c]] w (Says w (.bool true)) := by
  have HF := hide (fun w' (hb' : BV w' N s A n c z) => Fits_any N hN s A n c 127 z w' (by omega) hb')
  have hd : decide (-(2 ^ 127) ≤ z ∧ z < 2 ^ 127) = true := by rw [decide_eq_true_iff]; unfold Num at h; constructor <;> omega
  rw [hd] at HF
  have HG := hide (fun w => LBig_any hi lo z h w)
  have HV := hide fun w' (hb' : Bel (TwoB w hi lo s A n c) w') => (hb.below ((TwoB.below _ _ _ _ _ _ _).trans (hb'.mono (by rw [TwoB.size]; omega)))).more (show N ≤ N + 10 by omega)
  have HV2 := hide (hb.below (TwoB.below w hi lo s A n c))
  have HL := hide fun w' (hb' : Bel (TwoB w hi lo s A n c) w') => (TwoB.below w hi lo s A n c).trans (hb'.mono (by rw [TwoB.size]; omega))
  have H4 := hide (TwoB.args w hi lo s A n c)
  have Hcz := Lib.hid (cmpZ_eq (show z = z from rfl))
  clear h hb hd
  go_enter Try.func12, Try.ntmps12
  go_wp2_with fail
  refine (HF.out _ HV2.out).mono ?_
  rintro e w1 ⟨rfl, hb1⟩
  have hk1 : Bel (TwoB w hi lo s A n c) w1 := hb1
  obtain ⟨q1, q2, q3, q4⟩ := H4.out _ hk1
  clear hb1
  go_wp2_with fail
  go_region_held3 (fun w' => w'.cell? ⟨w.heap.size, 0, none⟩ = some (.int .i64 hi) ∧ w'.cell? ⟨w.heap.size, 1, none⟩ = some (.int .u64 lo) ∧ w'.cell? ⟨w.heap.size + 1, 0, none⟩ = some (.bool s) ∧ w'.cell? ⟨w.heap.size + 1, 1, none⟩ = some (.slice A n c))
    ((refine H4.out _ ?_; first | assumption | exact Bel.drew hk1 | (refine Bel.drew ?_; assumption)))
    (first
      | (go_at_call 8; refine (HG.out _).mono ?_; rintro e w2 ⟨s2, A2, n2, c2, rfl, hB2, hb2⟩; have hk2 : Bel (TwoB w hi lo s A n c) w2 := Bel.trans (by first | assumption | exact Bel.drew hk1 | (refine Bel.drew ?_; assumption)) hb2)
      | (go_at_call 28; refine (Cmp_any (N + 10) (by omega) _ _ _ _ _ _ _ _ z z _ (hB2.more (by omega)) (HV.out _ hk2)).mono ?_; rw [Hcz.out]; rintro e w3 ⟨rfl, hb3⟩; have hk3 : Bel (TwoB w hi lo s A n c) w3 := Bel.trans hk2 hb3))
  have hfin := HL.out _ hk3
  go_wp2_with fail
  go_ret
  exact ⟨rfl, hfin⟩

set_option maxHeartbeats 2000000 in
theorem Told_no (N : Nat) (hN : N ≤ 100000) (z : Int) (s : Bool) (A : Option Addr) (n c : Nat) (w : World) (h : z < -170141183460469231731687303715884105728 ∨ 170141183460469231731687303715884105728 ≤ z) (hb : BV w N s A n c z) :
    Calls Try.prog 12 #[.agg #[.int .i64 0, .int .u64 0], .bool false, .agg #[.bool s, .slice A n c]] w (Says w (.bool true)) := by
  have HF := hide (fun w' (hb' : BV w' N s A n c z) => Fits_any N hN s A n c 127 z w' (by omega) hb')
  have hd : decide (-(2 ^ 127) ≤ z ∧ z < 2 ^ 127) = false := by rw [decide_eq_false_iff_not]; omega
  rw [hd] at HF
  have HV2 := hide (hb.below (TwoB.below w 0 0 s A n c))
  have HL := hide fun w' (hb' : Bel (TwoB w 0 0 s A n c) w') => (TwoB.below w 0 0 s A n c).trans (hb'.mono (by rw [TwoB.size]; omega))
  have H4 := hide (TwoB.args w 0 0 s A n c)
  clear h hb hd
  go_enter Try.func12, Try.ntmps12
  go_wp2_with fail
  refine (HF.out _ (by exact HV2.out)).mono ?_
  rintro e w1 ⟨rfl, hb1⟩
  have hk1 : Bel (TwoB w 0 0 s A n c) w1 := hb1
  obtain ⟨q1, q2, q3, q4⟩ := H4.out _ hk1
  have hfin := HL.out _ hk1
  clear hb1 hk1
  go_wp2_with fail
  go_ret
  exact ⟨rfl, hfin⟩

/-- a number and a bool: it has room, or nothing is told -/
def Tol (hi : Int) (lo : Nat) (b : Bool) (z : Int) : Prop := (b = true ∧ Num hi lo z) ∨ (b = false ∧ hi = 0 ∧ lo = 0 ∧ (z < -170141183460469231731687303715884105728 ∨ 170141183460469231731687303715884105728 ≤ z))
def TolPost (w : World) (z : Int) (e : Ending) (w' : World) : Prop := ∃ (hi : Int) (lo : Nat) (b : Bool), e = .returned (.tuple #[.agg #[.int .i64 hi, .int .u64 lo], .bool b]) ∧ Tol hi lo b z ∧ Below w.heap.size w w'
theorem TolPost.yes {w : World} {z : Int} {e : Ending} {w' : World} (h : NumPost2 w true z e w') : TolPost w z e w' := by
  obtain ⟨hi, lo, h1, h2, h3⟩ := h
  exact ⟨hi, lo, true, h1, .inl ⟨rfl, h2⟩, h3⟩
theorem TolPost.no {w : World} {z : Int} {e : Ending} {w' : World} (h : NumPost2 w false 0 e w') (hz : z < -170141183460469231731687303715884105728 ∨ 170141183460469231731687303715884105728 ≤ z) : TolPost w z e w' := by
  obtain ⟨hi, lo, h1, h2, h3⟩ := h
  exact ⟨hi, lo, false, h1, .inr ⟨rfl, by unfold Num at h2; omega, by unfold Num at h2; omega, hz⟩, h3⟩
theorem fits_or (z : Int) : (-170141183460469231731687303715884105728 ≤ z ∧ z < 170141183460469231731687303715884105728) ∨ (z < -170141183460469231731687303715884105728 ∨ 170141183460469231731687303715884105728 ≤ z) := by omega

theorem WAdd_tol (hi hi' : Int) (lo lo' : Nat) (a b : Int) (ha : Num hi lo a) (hb : Num hi' lo' b) (w : World) :
    Calls Try.prog 9 #[.agg #[.int .i64 hi, .int .u64 lo], .agg #[.int .i64 hi', .int .u64 lo']] w (TolPost w (a + b)) := by
  rcases fits_or (a + b) with h | h
  · exact (WAdd_yes hi hi' lo lo' a b ha hb h w).mono fun _ _ h => TolPost.yes h
  · exact (WAdd_no hi hi' lo lo' a b ha hb h w).mono fun _ _ h2 => TolPost.no h2 h
theorem WSub_tol (hi hi' : Int) (lo lo' : Nat) (a b : Int) (ha : Num hi lo a) (hb : Num hi' lo' b) (w : World) :
    Calls Try.prog 10 #[.agg #[.int .i64 hi, .int .u64 lo], .agg #[.int .i64 hi', .int .u64 lo']] w (TolPost w (a - b)) := by
  rcases fits_or (a - b) with h | h
  · exact (WSub_yes hi hi' lo lo' a b ha hb h w).mono fun _ _ h => TolPost.yes h
  · exact (WSub_no hi hi' lo lo' a b ha hb h w).mono fun _ _ h2 => TolPost.no h2 h
theorem WNeg_tol (hi : Int) (lo : Nat) (a : Int) (ha : Num hi lo a) (w : World) :
    Calls Try.prog 11 #[.agg #[.int .i64 hi, .int .u64 lo]] w (TolPost w (-a)) := by
  by_cases h : -170141183460469231731687303715884105728 < a
  · exact (WNeg_yes hi lo a ha h w).mono fun _ _ h => TolPost.yes h
  · have e : a = -170141183460469231731687303715884105728 := by unfold Num at ha; omega
    exact (WNeg_no hi lo a ha e w).mono fun _ _ h2 => TolPost.no h2 (by omega)
theorem Told_any (N : Nat) (hN : N ≤ 100000) (hi : Int) (lo : Nat) (b : Bool) (z : Int) (s : Bool) (A : Option Addr) (n c : Nat) (w : World) (h : Tol hi lo b z) (hb : BV w N s A n c z) :
    Calls Try.prog 12 #[.agg #[.int .i64 hi, .int .u64 lo], .bool b, .agg #[.bool s, .slice A n c]] w (Says w (.bool true)) := by
  rcases h with ⟨rfl, h⟩ | ⟨rfl, rfl, rfl, h⟩
  · exact Told_fit N hN hi lo z s A n c w h hb
  · exact Told_no N hN z s A n c w h hb

end Go.Proofs.Ytoaaecggfaaplaa
