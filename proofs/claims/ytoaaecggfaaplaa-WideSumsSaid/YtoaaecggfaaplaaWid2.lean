/-
Contracts of package wide: Add, Sub, Neg. No statement is proved here.
-/
import Derived.Test.YtoaaecggfaaplaaWid1
namespace Go.Proofs.Ytoaaecggfaaplaa
open Go.RowKit

def IsI (x I : Int) : Prop := -9223372036854775808 ≤ I ∧ I < 9223372036854775808 ∧ I % 18446744073709551616 = x % 18446744073709551616
theorem ex_wrapi (x : Int) : ∃ I : Int, IntKind.i64.wrap x = I ∧ Hid (IsI x I) := by
  refine ⟨_, rfl, ?_⟩
  show IsI _ _
  unfold IsI
  rw [IntKind.wrap_i64]
  omega

/-- four boxes of two cells -/
def Four (w : World) (t : TypeId) (x0 x1 y0 y1 r0 r1 d0 d1 : Value) : World := (((w.alloc (.cells #[x0, x1] t)).alloc (.cells #[y0, y1] t)).alloc (.cells #[r0, r1] t)).alloc (.cells #[d0, d1] t)
section
variable (w : World) (t : TypeId) (x0 x1 y0 y1 r0 r1 d0 d1 : Value)
theorem Four.start : Bel (Four w t x0 x1 y0 y1 r0 r1 d0 d1) ((((w.alloc (.cells #[x0, x1] t)).alloc (.cells #[y0, y1] t)).alloc (.cells #[r0, r1] t)).alloc (.cells #[d0, d1] t)) := Bel.refl _
theorem Four.size : (Four w t x0 x1 y0 y1 r0 r1 d0 d1).heap.size = w.heap.size + 4 := by simp [Four]
theorem Four.below : Below w.heap.size w (Four w t x0 x1 y0 y1 r0 r1 d0 d1) := (below_alloc3 w _ _ _).alloc (by simp; omega) _
theorem Four.cells (w' : World) (h : Bel (Four w t x0 x1 y0 y1 r0 r1 d0 d1) w') :
    w'.cell? ⟨w.heap.size, 0, none⟩ = some x0 ∧ w'.cell? ⟨w.heap.size, 1, none⟩ = some x1 ∧ w'.cell? ⟨w.heap.size + 1, 0, none⟩ = some y0 ∧ w'.cell? ⟨w.heap.size + 1, 1, none⟩ = some y1 ∧
      w'.cell? ⟨w.heap.size + 1 + 1 + 1, 0, none⟩ = some d0 ∧ w'.cell? ⟨w.heap.size + 1 + 1 + 1, 1, none⟩ = some d1 := by
  have hz := Four.size w t x0 x1 y0 y1 r0 r1 d0 d1
  refine ⟨?_, ?_, ?_, ?_, ?_, ?_⟩
  · rw [h.cell 0 (by omega)]; simp [Four, go_sem]
  · rw [h.cell 1 (by omega)]; simp [Four, go_sem]
  · rw [h.cell 0 (by omega)]; simp [Four, go_sem]
  · rw [h.cell 1 (by omega)]; simp [Four, go_sem]
  · rw [h.cell 0 (by omega)]; simp [Four, go_sem]
  · rw [h.cell 1 (by omega)]; simp [Four, go_sem]
theorem Four.res (w' : World) (h : Bel (Four w t x0 x1 y0 y1 r0 r1 d0 d1) w') :
    w'.cell? ⟨w.heap.size + 1 + 1, 0, none⟩ = some r0 ∧ w'.cell? ⟨w.heap.size + 1 + 1, 1, none⟩ = some r1 ∧ w'.frozen? ⟨w.heap.size + 1 + 1, 0, none⟩ = false ∧ w'.frozen? ⟨w.heap.size + 1 + 1, 1, none⟩ = false := by
  have hz := Four.size w t x0 x1 y0 y1 r0 r1 d0 d1
  refine ⟨?_, ?_, ?_, ?_⟩
  · rw [h.cell 0 (by omega)]; simp [Four, go_sem]
  · rw [h.cell 1 (by omega)]; simp [Four, go_sem]
  · rw [h.frozen 0 (by omega)]; simp [Four, go_sem]
  · rw [h.frozen 1 (by omega)]; simp [Four, go_sem]
end

theorem below_is (hi lo : Int) (b : Bool) (h : decide (hi < 0) = b) (w : World) : Calls Try.prog 35 #[.agg #[.int .i64 hi, .int .u64 lo]] w (Says w (.bool b)) := by
  rw [← h]; exact below_any hi lo w

theorem add_num {hi hi' I : Int} {lo lo' U U' s1 c1 s2 c2 : Nat} {a b : Int} (ha : Num hi lo a) (hb : Num hi' lo' b) (hU : IsU hi U) (hU' : IsU hi' U') (e1 : AddIs lo lo' 0 s1 c1) (e2 : AddIs U U' c1 s2 c2) (hI : IsI (s2 : Int) I) :
    s1 < 18446744073709551616 ∧ -9223372036854775808 ≤ I ∧ I < 9223372036854775808 ∧ (I = hi + hi' + c1 ∨ I = hi + hi' + c1 - 18446744073709551616 ∨ I = hi + hi' + c1 + 18446744073709551616) ∧ (c1 : Int) * 18446744073709551616 + s1 = lo + lo' ∧ c1 ≤ 1 := by
  unfold IsI IsU AddIs Num at *
  omega
theorem sub_num {hi hi' I : Int} {lo lo' U U' s1 c1 s2 c2 : Nat} {a b : Int} (ha : Num hi lo a) (hb : Num hi' lo' b) (hU : IsU hi U) (hU' : IsU hi' U') (e1 : SubIs lo lo' 0 s1 c1) (e2 : SubIs U U' c1 s2 c2) (hI : IsI (s2 : Int) I) :
    s1 < 18446744073709551616 ∧ -9223372036854775808 ≤ I ∧ I < 9223372036854775808 ∧ (I = hi - hi' - c1 ∨ I = hi - hi' - c1 - 18446744073709551616 ∨ I = hi - hi' - c1 + 18446744073709551616) ∧ (s1 : Int) = lo - lo' + c1 * 18446744073709551616 ∧ c1 ≤ 1 := by
  obtain ⟨d1, d2, d3⟩ := e1
  obtain ⟨f1, _, _⟩ := e2
  unfold IsI IsU Num at *
  split at d2 <;> omega

set_option maxHeartbeats 4000000 in
set_option maxRecDepth 100000 in
theorem WAdd_fit (hi hi' : Int) (lo lo' : Nat) (a b : Int) (ba bb : Bool) (ha : Num hi lo a) (hb : Num hi' lo' b) (hba : decide (hi < 0) = ba) (hbb : decide (hi' < 0) = bb) (hab : (ba == bb) = true) (hfit : -170141183460469231731687303715884105728 ≤ a + b ∧ a + b < 170141183460469231731687303715884105728) (w : World) :
    Calls Try.prog 9 #[.agg #[.int .i64 hi, .int .u64 lo], .agg #[.int .i64 hi', .int .u64 lo']] w (NumPost2 w true (a + b)) := by
  obtain ⟨s1, c1, hs1, e1⟩ := ex_add64_0 lo lo' (by unfold Num at ha; omega) (by unfold Num at hb; omega)
  obtain ⟨U, hU, HU⟩ := ex_wrapu hi
  obtain ⟨U', hU', HU'⟩ := ex_wrapu hi'
  obtain ⟨s2, c2, hs2, e2⟩ := ex_add64 U U' c1 (by have := HU.out; unfold IsU at this; omega) (by have := HU'.out; unfold IsU at this; omega) (AddIs.le e1.out)
  obtain ⟨I, hI, HI⟩ := ex_wrapi (s2 : Int)
  have hn := add_num ha hb HU.out HU'.out e1.out e2.out HI.out
  obtain ⟨bs, hbs⟩ : ∃ bs : Bool, decide (I < 0) = bs := ⟨_, rfl⟩
  have hd : (bs == ba) = true := by
    subst hba hbb hbs
    unfold Num at ha hb
    simp at hab ⊢
    omega
  have HN := hide (show Num I s1 (a + b) by
    subst hba hbb hbs
    unfold Num at ha hb ⊢
    simp at hab
    omega)
  have HA := hide (below_is hi lo ba hba)
  have HB' := hide (below_is hi' lo' bb hbb)
  have HI' := hide (below_is I s1 bs hbs)
  have H4 := hide (Four.cells w 24 (.int .i64 hi) (.int .u64 lo) (.int .i64 hi') (.int .u64 lo') (.int .i64 0) (.int .u64 0) (.int .i64 I) (.int .u64 s1))
  have HR := hide (Four.res w 24 (.int .i64 hi) (.int .u64 lo) (.int .i64 hi') (.int .u64 lo') (.int .i64 0) (.int .u64 0) (.int .i64 I) (.int .u64 s1))
  have HBl := hide fun w' (h : Bel (Four w 24 (.int .i64 hi) (.int .u64 lo) (.int .i64 hi') (.int .u64 lo') (.int .i64 0) (.int .u64 0) (.int .i64 I) (.int .u64 s1)) w') => (Four.below w 24 (.int .i64 hi) (.int .u64 lo) (.int .i64 hi') (.int .u64 lo') (.int .i64 0) (.int .u64 0) (.int .i64 I) (.int .u64 s1)).trans (h.mono (by rw [Four.size]; omega))
  clear ha hb hba hbb HU HU' e1 e2 HI hn hbs hfit
  go_enter Try.func9, Try.ntmps9
  go_wp2_with fail
  go_region_held3 (fun w' => w'.cell? ⟨w.heap.size, 0, none⟩ = some (.int .i64 hi) ∧ w'.cell? ⟨w.heap.size, 1, none⟩ = some (.int .u64 lo) ∧ w'.cell? ⟨w.heap.size + 1, 0, none⟩ = some (.int .i64 hi') ∧ w'.cell? ⟨w.heap.size + 1, 1, none⟩ = some (.int .u64 lo') ∧ w'.cell? ⟨w.heap.size + 1 + 1 + 1, 0, none⟩ = some (.int .i64 I) ∧ w'.cell? ⟨w.heap.size + 1 + 1 + 1, 1, none⟩ = some (.int .u64 s1))
    ((refine H4.out _ ?_; first | assumption | exact Four.start _ _ _ _ _ _ _ _ _ _ | exact Bel.drew (Four.start _ _ _ _ _ _ _ _ _ _) | (refine Bel.drew ?_; assumption)))
    (first
      | (go_at_call_of 35 (Value.agg #[.int .i64 hi, .int .u64 (lo : Int)]); refine (HA.out _).mono ?_; rintro e w' ⟨rfl, hb⟩; have hk : Bel (Four w 24 (.int .i64 hi) (.int .u64 lo) (.int .i64 hi') (.int .u64 lo') (.int .i64 0) (.int .u64 0) (.int .i64 I) (.int .u64 s1)) w' := Bel.trans (by first | assumption | exact Four.start _ _ _ _ _ _ _ _ _ _ | exact Bel.drew (Four.start _ _ _ _ _ _ _ _ _ _) | (refine Bel.drew ?_; assumption)) hb; clear hb)
      | (go_at_call_of 35 (Value.agg #[.int .i64 hi', .int .u64 (lo' : Int)]); refine (HB'.out _).mono ?_; rintro e w' ⟨rfl, hb⟩; have hk : Bel (Four w 24 (.int .i64 hi) (.int .u64 lo) (.int .i64 hi') (.int .u64 lo') (.int .i64 0) (.int .u64 0) (.int .i64 I) (.int .u64 s1)) w' := Bel.trans (by first | assumption | exact Four.start _ _ _ _ _ _ _ _ _ _ | exact Bel.drew (Four.start _ _ _ _ _ _ _ _ _ _) | (refine Bel.drew ?_; assumption)) hb; clear hb)
      | (go_at_call_of 35 (Value.agg #[.int .i64 I, .int .u64 (s1 : Int)]); refine (HI'.out _).mono ?_; rintro e w' ⟨rfl, hb⟩; have hk : Bel (Four w 24 (.int .i64 hi) (.int .u64 lo) (.int .i64 hi') (.int .u64 lo') (.int .i64 0) (.int .u64 0) (.int .i64 I) (.int .u64 s1)) w' := Bel.trans (by first | assumption | exact Four.start _ _ _ _ _ _ _ _ _ _ | exact Bel.drew (Four.start _ _ _ _ _ _ _ _ _ _) | (refine Bel.drew ?_; assumption)) hb; clear hb))
  all_goals
    have HK := hide (HBl.out _ hk)
    obtain ⟨r1, r2, r3, r4⟩ := HR.out _ hk
    obtain ⟨p1, p2, p3, p4, p5, p6⟩ := H4.out _ hk
    clear hk
    go_wp2_with fail
    refine bodyPost_ret (v := .tuple #[.agg #[.int .i64 I, .int .u64 s1], .bool true]) (by simp [results, Try.results9, go_sem, r1, r2]) rfl ⟨_, _, rfl, HN.out, ?_⟩
    exact below_set2 HK.out (by omega) _ _

set_option maxHeartbeats 4000000 in
set_option maxRecDepth 100000 in
theorem WAdd_over (hi hi' : Int) (lo lo' : Nat) (a b : Int) (ba bb : Bool) (ha : Num hi lo a) (hb : Num hi' lo' b) (hba : decide (hi < 0) = ba) (hbb : decide (hi' < 0) = bb) (hab : (ba == bb) = true) (hfit : a + b < -170141183460469231731687303715884105728 ∨ 170141183460469231731687303715884105728 ≤ a + b) (w : World) :
    Calls Try.prog 9 #[.agg #[.int .i64 hi, .int .u64 lo], .agg #[.int .i64 hi', .int .u64 lo']] w (NumPost2 w false 0) := by
  obtain ⟨s1, c1, hs1, e1⟩ := ex_add64_0 lo lo' (by unfold Num at ha; omega) (by unfold Num at hb; omega)
  obtain ⟨U, hU, HU⟩ := ex_wrapu hi
  obtain ⟨U', hU', HU'⟩ := ex_wrapu hi'
  obtain ⟨s2, c2, hs2, e2⟩ := ex_add64 U U' c1 (by have := HU.out; unfold IsU at this; omega) (by have := HU'.out; unfold IsU at this; omega) (AddIs.le e1.out)
  obtain ⟨I, hI, HI⟩ := ex_wrapi (s2 : Int)
  have hn := add_num ha hb HU.out HU'.out e1.out e2.out HI.out
  obtain ⟨bs, hbs⟩ : ∃ bs : Bool, decide (I < 0) = bs := ⟨_, rfl⟩
  have hd : (bs == ba) = false := by
    subst hba hbb hbs
    unfold Num at ha hb
    simp at hab ⊢
    omega
  have HA := hide (below_is hi lo ba hba)
  have HB' := hide (below_is hi' lo' bb hbb)
  have HI' := hide (below_is I s1 bs hbs)
  have H4 := hide (Four.cells w 24 (.int .i64 hi) (.int .u64 lo) (.int .i64 hi') (.int .u64 lo') (.int .i64 0) (.int .u64 0) (.int .i64 I) (.int .u64 s1))
  have HR := hide (Four.res w 24 (.int .i64 hi) (.int .u64 lo) (.int .i64 hi') (.int .u64 lo') (.int .i64 0) (.int .u64 0) (.int .i64 I) (.int .u64 s1))
  have HBl := hide fun w' (h : Bel (Four w 24 (.int .i64 hi) (.int .u64 lo) (.int .i64 hi') (.int .u64 lo') (.int .i64 0) (.int .u64 0) (.int .i64 I) (.int .u64 s1)) w') => (Four.below w 24 (.int .i64 hi) (.int .u64 lo) (.int .i64 hi') (.int .u64 lo') (.int .i64 0) (.int .u64 0) (.int .i64 I) (.int .u64 s1)).trans (h.mono (by rw [Four.size]; omega))
  clear ha hb hba hbb HU HU' e1 e2 HI hn hbs hfit
  go_enter Try.func9, Try.ntmps9
  go_wp2_with fail
  go_region_held3 (fun w' => w'.cell? ⟨w.heap.size, 0, none⟩ = some (.int .i64 hi) ∧ w'.cell? ⟨w.heap.size, 1, none⟩ = some (.int .u64 lo) ∧ w'.cell? ⟨w.heap.size + 1, 0, none⟩ = some (.int .i64 hi') ∧ w'.cell? ⟨w.heap.size + 1, 1, none⟩ = some (.int .u64 lo') ∧ w'.cell? ⟨w.heap.size + 1 + 1 + 1, 0, none⟩ = some (.int .i64 I) ∧ w'.cell? ⟨w.heap.size + 1 + 1 + 1, 1, none⟩ = some (.int .u64 s1))
    ((refine H4.out _ ?_; first | assumption | exact Four.start _ _ _ _ _ _ _ _ _ _ | exact Bel.drew (Four.start _ _ _ _ _ _ _ _ _ _) | (refine Bel.drew ?_; assumption)))
    (first
      | (go_at_call_of 35 (Value.agg #[.int .i64 hi, .int .u64 (lo : Int)]); refine (HA.out _).mono ?_; rintro e w' ⟨rfl, hb⟩; have hk : Bel (Four w 24 (.int .i64 hi) (.int .u64 lo) (.int .i64 hi') (.int .u64 lo') (.int .i64 0) (.int .u64 0) (.int .i64 I) (.int .u64 s1)) w' := Bel.trans (by first | assumption | exact Four.start _ _ _ _ _ _ _ _ _ _ | exact Bel.drew (Four.start _ _ _ _ _ _ _ _ _ _) | (refine Bel.drew ?_; assumption)) hb; clear hb)
      | (go_at_call_of 35 (Value.agg #[.int .i64 hi', .int .u64 (lo' : Int)]); refine (HB'.out _).mono ?_; rintro e w' ⟨rfl, hb⟩; have hk : Bel (Four w 24 (.int .i64 hi) (.int .u64 lo) (.int .i64 hi') (.int .u64 lo') (.int .i64 0) (.int .u64 0) (.int .i64 I) (.int .u64 s1)) w' := Bel.trans (by first | assumption | exact Four.start _ _ _ _ _ _ _ _ _ _ | exact Bel.drew (Four.start _ _ _ _ _ _ _ _ _ _) | (refine Bel.drew ?_; assumption)) hb; clear hb)
      | (go_at_call_of 35 (Value.agg #[.int .i64 I, .int .u64 (s1 : Int)]); refine (HI'.out _).mono ?_; rintro e w' ⟨rfl, hb⟩; have hk : Bel (Four w 24 (.int .i64 hi) (.int .u64 lo) (.int .i64 hi') (.int .u64 lo') (.int .i64 0) (.int .u64 0) (.int .i64 I) (.int .u64 s1)) w' := Bel.trans (by first | assumption | exact Four.start _ _ _ _ _ _ _ _ _ _ | exact Bel.drew (Four.start _ _ _ _ _ _ _ _ _ _) | (refine Bel.drew ?_; assumption)) hb; clear hb))
  all_goals
    have HK := hide (HBl.out _ hk)
    obtain ⟨r1, r2, r3, r4⟩ := HR.out _ hk
    obtain ⟨p1, p2, p3, p4, p5, p6⟩ := H4.out _ hk
    clear hk
    go_wp2_with fail
    refine bodyPost_ret (v := .tuple #[.agg #[.int .i64 0, .int .u64 0], .bool false]) (by simp [results, Try.results9, go_sem, r1, r2]) rfl ⟨_, 0, rfl, Num_zero, ?_⟩
    exact below_set2 HK.out (by omega) _ _

set_option maxHeartbeats 4000000 in
set_option maxRecDepth 100000 in
theorem WAdd_apart (hi hi' : Int) (lo lo' : Nat) (a b : Int) (ba bb : Bool) (ha : Num hi lo a) (hb : Num hi' lo' b) (hba : decide (hi < 0) = ba) (hbb : decide (hi' < 0) = bb) (hab : (ba == bb) = false) (w : World) :
    Calls Try.prog 9 #[.agg #[.int .i64 hi, .int .u64 lo], .agg #[.int .i64 hi', .int .u64 lo']] w (NumPost2 w true (a + b)) := by
  obtain ⟨s1, c1, hs1, e1⟩ := ex_add64_0 lo lo' (by unfold Num at ha; omega) (by unfold Num at hb; omega)
  obtain ⟨U, hU, HU⟩ := ex_wrapu hi
  obtain ⟨U', hU', HU'⟩ := ex_wrapu hi'
  obtain ⟨s2, c2, hs2, e2⟩ := ex_add64 U U' c1 (by have := HU.out; unfold IsU at this; omega) (by have := HU'.out; unfold IsU at this; omega) (AddIs.le e1.out)
  obtain ⟨I, hI, HI⟩ := ex_wrapi (s2 : Int)
  have hn := add_num ha hb HU.out HU'.out e1.out e2.out HI.out
  have HN := hide (show Num I s1 (a + b) by
    subst hba hbb
    unfold Num at ha hb ⊢
    simp at hab
    omega)
  have HA := hide (below_is hi lo ba hba)
  have HB' := hide (below_is hi' lo' bb hbb)
  have HI' := hide (below_is I s1 _ rfl)
  have H4 := hide (Four.cells w 24 (.int .i64 hi) (.int .u64 lo) (.int .i64 hi') (.int .u64 lo') (.int .i64 0) (.int .u64 0) (.int .i64 I) (.int .u64 s1))
  have HR := hide (Four.res w 24 (.int .i64 hi) (.int .u64 lo) (.int .i64 hi') (.int .u64 lo') (.int .i64 0) (.int .u64 0) (.int .i64 I) (.int .u64 s1))
  have HBl := hide fun w' (h : Bel (Four w 24 (.int .i64 hi) (.int .u64 lo) (.int .i64 hi') (.int .u64 lo') (.int .i64 0) (.int .u64 0) (.int .i64 I) (.int .u64 s1)) w') => (Four.below w 24 (.int .i64 hi) (.int .u64 lo) (.int .i64 hi') (.int .u64 lo') (.int .i64 0) (.int .u64 0) (.int .i64 I) (.int .u64 s1)).trans (h.mono (by rw [Four.size]; omega))
  clear ha hb hba hbb HU HU' e1 e2 HI hn
  go_enter Try.func9, Try.ntmps9
  go_wp2_with fail
  obtain ⟨q1, q2, q3, q4, q5, q6⟩ := H4.out _ (Four.start _ _ _ _ _ _ _ _ _ _)
  first | (go_region_with
    (first
      | (go_at_call_of 35 (Value.agg #[.int .i64 hi, .int .u64 (lo : Int)]); refine (HA.out _).mono ?_; rintro e w' ⟨rfl, hb⟩; have hk : Bel (Four w 24 (.int .i64 hi) (.int .u64 lo) (.int .i64 hi') (.int .u64 lo') (.int .i64 0) (.int .u64 0) (.int .i64 I) (.int .u64 s1)) w' := Bel.trans (by first | assumption | exact Four.start _ _ _ _ _ _ _ _ _ _ | exact Bel.drew (Four.start _ _ _ _ _ _ _ _ _ _) | (refine Bel.drew ?_; assumption)) hb; clear hb; obtain ⟨q1, q2, q3, q4, q5, q6⟩ := H4.out _ hk)
      | (go_at_call_of 35 (Value.agg #[.int .i64 hi', .int .u64 (lo' : Int)]); refine (HB'.out _).mono ?_; rintro e w' ⟨rfl, hb⟩; have hk : Bel (Four w 24 (.int .i64 hi) (.int .u64 lo) (.int .i64 hi') (.int .u64 lo') (.int .i64 0) (.int .u64 0) (.int .i64 I) (.int .u64 s1)) w' := Bel.trans (by first | assumption | exact Four.start _ _ _ _ _ _ _ _ _ _ | exact Bel.drew (Four.start _ _ _ _ _ _ _ _ _ _) | (refine Bel.drew ?_; assumption)) hb; clear hb; obtain ⟨q1, q2, q3, q4, q5, q6⟩ := H4.out _ hk))) | fail
  all_goals
    have HK := hide (HBl.out _ hk)
    obtain ⟨r1, r2, r3, r4⟩ := HR.out _ hk
    obtain ⟨p1, p2, p3, p4, p5, p6⟩ := H4.out _ hk
    clear hk
    go_wp2_with fail
    refine bodyPost_ret (v := .tuple #[.agg #[.int .i64 I, .int .u64 s1], .bool true]) (by simp [results, Try.results9, go_sem, r1, r2]) rfl ⟨_, _, rfl, HN.out, ?_⟩
    exact below_set2 HK.out (by omega) _ _

set_option maxHeartbeats 4000000 in
set_option maxRecDepth 100000 in
theorem WSub_fit (hi hi' : Int) (lo lo' : Nat) (a b : Int) (ba bb : Bool) (ha : Num hi lo a) (hb : Num hi' lo' b) (hba : decide (hi < 0) = ba) (hbb : decide (hi' < 0) = bb) (hab : (ba == bb) = false) (hfit : -170141183460469231731687303715884105728 ≤ a - b ∧ a - b < 170141183460469231731687303715884105728) (w : World) :
    Calls Try.prog 10 #[.agg #[.int .i64 hi, .int .u64 lo], .agg #[.int .i64 hi', .int .u64 lo']] w (NumPost2 w true (a - b)) := by
  obtain ⟨s1, c1, hs1, e1⟩ := ex_sub64_0 lo lo'
  obtain ⟨U, hU, HU⟩ := ex_wrapu hi
  obtain ⟨U', hU', HU'⟩ := ex_wrapu hi'
  obtain ⟨s2, c2, hs2, e2⟩ := ex_sub64 U U' c1 (SubIs.le e1.out)
  obtain ⟨I, hI, HI⟩ := ex_wrapi (s2 : Int)
  have hn := sub_num ha hb HU.out HU'.out e1.out e2.out HI.out
  obtain ⟨bs, hbs⟩ : ∃ bs : Bool, decide (I < 0) = bs := ⟨_, rfl⟩
  have hd : (bs == ba) = true := by
    subst hba hbb hbs
    unfold Num at ha hb
    simp at hab ⊢
    omega
  have HN := hide (show Num I s1 (a - b) by
    subst hba hbb hbs
    unfold Num at ha hb ⊢
    simp at hab
    omega)
  have HA := hide (below_is hi lo ba hba)
  have HB' := hide (below_is hi' lo' bb hbb)
  have HI' := hide (below_is I s1 bs hbs)
  have H4 := hide (Four.cells w 24 (.int .i64 hi) (.int .u64 lo) (.int .i64 hi') (.int .u64 lo') (.int .i64 0) (.int .u64 0) (.int .i64 I) (.int .u64 s1))
  have HR := hide (Four.res w 24 (.int .i64 hi) (.int .u64 lo) (.int .i64 hi') (.int .u64 lo') (.int .i64 0) (.int .u64 0) (.int .i64 I) (.int .u64 s1))
  have HBl := hide fun w' (h : Bel (Four w 24 (.int .i64 hi) (.int .u64 lo) (.int .i64 hi') (.int .u64 lo') (.int .i64 0) (.int .u64 0) (.int .i64 I) (.int .u64 s1)) w') => (Four.below w 24 (.int .i64 hi) (.int .u64 lo) (.int .i64 hi') (.int .u64 lo') (.int .i64 0) (.int .u64 0) (.int .i64 I) (.int .u64 s1)).trans (h.mono (by rw [Four.size]; omega))
  clear ha hb hba hbb HU HU' e1 e2 HI hn hbs hfit
  go_enter Try.func10, Try.ntmps10
  go_wp2_with fail
  go_region_held3 (fun w' => w'.cell? ⟨w.heap.size, 0, none⟩ = some (.int .i64 hi) ∧ w'.cell? ⟨w.heap.size, 1, none⟩ = some (.int .u64 lo) ∧ w'.cell? ⟨w.heap.size + 1, 0, none⟩ = some (.int .i64 hi') ∧ w'.cell? ⟨w.heap.size + 1, 1, none⟩ = some (.int .u64 lo') ∧ w'.cell? ⟨w.heap.size + 1 + 1 + 1, 0, none⟩ = some (.int .i64 I) ∧ w'.cell? ⟨w.heap.size + 1 + 1 + 1, 1, none⟩ = some (.int .u64 s1))
    ((refine H4.out _ ?_; first | assumption | exact Four.start _ _ _ _ _ _ _ _ _ _ | exact Bel.drew (Four.start _ _ _ _ _ _ _ _ _ _) | (refine Bel.drew ?_; assumption)))
    (first
      | (go_at_call_of 35 (Value.agg #[.int .i64 hi, .int .u64 (lo : Int)]); refine (HA.out _).mono ?_; rintro e w' ⟨rfl, hb⟩; have hk : Bel (Four w 24 (.int .i64 hi) (.int .u64 lo) (.int .i64 hi') (.int .u64 lo') (.int .i64 0) (.int .u64 0) (.int .i64 I) (.int .u64 s1)) w' := Bel.trans (by first | assumption | exact Four.start _ _ _ _ _ _ _ _ _ _ | exact Bel.drew (Four.start _ _ _ _ _ _ _ _ _ _) | (refine Bel.drew ?_; assumption)) hb; clear hb)
      | (go_at_call_of 35 (Value.agg #[.int .i64 hi', .int .u64 (lo' : Int)]); refine (HB'.out _).mono ?_; rintro e w' ⟨rfl, hb⟩; have hk : Bel (Four w 24 (.int .i64 hi) (.int .u64 lo) (.int .i64 hi') (.int .u64 lo') (.int .i64 0) (.int .u64 0) (.int .i64 I) (.int .u64 s1)) w' := Bel.trans (by first | assumption | exact Four.start _ _ _ _ _ _ _ _ _ _ | exact Bel.drew (Four.start _ _ _ _ _ _ _ _ _ _) | (refine Bel.drew ?_; assumption)) hb; clear hb)
      | (go_at_call_of 35 (Value.agg #[.int .i64 I, .int .u64 (s1 : Int)]); refine (HI'.out _).mono ?_; rintro e w' ⟨rfl, hb⟩; have hk : Bel (Four w 24 (.int .i64 hi) (.int .u64 lo) (.int .i64 hi') (.int .u64 lo') (.int .i64 0) (.int .u64 0) (.int .i64 I) (.int .u64 s1)) w' := Bel.trans (by first | assumption | exact Four.start _ _ _ _ _ _ _ _ _ _ | exact Bel.drew (Four.start _ _ _ _ _ _ _ _ _ _) | (refine Bel.drew ?_; assumption)) hb; clear hb))
  all_goals
    have HK := hide (HBl.out _ hk)
    obtain ⟨r1, r2, r3, r4⟩ := HR.out _ hk
    obtain ⟨p1, p2, p3, p4, p5, p6⟩ := H4.out _ hk
    clear hk
    go_wp2_with fail
    refine bodyPost_ret (v := .tuple #[.agg #[.int .i64 I, .int .u64 s1], .bool true]) (by simp [results, Try.results10, go_sem, r1, r2]) rfl ⟨_, _, rfl, HN.out, ?_⟩
    exact below_set2 HK.out (by omega) _ _

set_option maxHeartbeats 4000000 in
set_option maxRecDepth 100000 in
theorem WSub_over (hi hi' : Int) (lo lo' : Nat) (a b : Int) (ba bb : Bool) (ha : Num hi lo a) (hb : Num hi' lo' b) (hba : decide (hi < 0) = ba) (hbb : decide (hi' < 0) = bb) (hab : (ba == bb) = false) (hfit : a - b < -170141183460469231731687303715884105728 ∨ 170141183460469231731687303715884105728 ≤ a - b) (w : World) :
    Calls Try.prog 10 #[.agg #[.int .i64 hi, .int .u64 lo], .agg #[.int .i64 hi', .int .u64 lo']] w (NumPost2 w false 0) := by
  obtain ⟨s1, c1, hs1, e1⟩ := ex_sub64_0 lo lo'
  obtain ⟨U, hU, HU⟩ := ex_wrapu hi
  obtain ⟨U', hU', HU'⟩ := ex_wrapu hi'
  obtain ⟨s2, c2, hs2, e2⟩ := ex_sub64 U U' c1 (SubIs.le e1.out)
  obtain ⟨I, hI, HI⟩ := ex_wrapi (s2 : Int)
  have hn := sub_num ha hb HU.out HU'.out e1.out e2.out HI.out
  obtain ⟨bs, hbs⟩ : ∃ bs : Bool, decide (I < 0) = bs := ⟨_, rfl⟩
  have hd : (bs == ba) = false := by
    subst hba hbb hbs
    unfold Num at ha hb
    simp at hab ⊢
    omega
  have HA := hide (below_is hi lo ba hba)
  have HB' := hide (below_is hi' lo' bb hbb)
  have HI' := hide (below_is I s1 bs hbs)
  have H4 := hide (Four.cells w 24 (.int .i64 hi) (.int .u64 lo) (.int .i64 hi') (.int .u64 lo') (.int .i64 0) (.int .u64 0) (.int .i64 I) (.int .u64 s1))
  have HR := hide (Four.res w 24 (.int .i64 hi) (.int .u64 lo) (.int .i64 hi') (.int .u64 lo') (.int .i64 0) (.int .u64 0) (.int .i64 I) (.int .u64 s1))
  have HBl := hide fun w' (h : Bel (Four w 24 (.int .i64 hi) (.int .u64 lo) (.int .i64 hi') (.int .u64 lo') (.int .i64 0) (.int .u64 0) (.int .i64 I) (.int .u64 s1)) w') => (Four.below w 24 (.int .i64 hi) (.int .u64 lo) (.int .i64 hi') (.int .u64 lo') (.int .i64 0) (.int .u64 0) (.int .i64 I) (.int .u64 s1)).trans (h.mono (by rw [Four.size]; omega))
  clear ha hb hba hbb HU HU' e1 e2 HI hn hbs hfit
  go_enter Try.func10, Try.ntmps10
  go_wp2_with fail
  go_region_held3 (fun w' => w'.cell? ⟨w.heap.size, 0, none⟩ = some (.int .i64 hi) ∧ w'.cell? ⟨w.heap.size, 1, none⟩ = some (.int .u64 lo) ∧ w'.cell? ⟨w.heap.size + 1, 0, none⟩ = some (.int .i64 hi') ∧ w'.cell? ⟨w.heap.size + 1, 1, none⟩ = some (.int .u64 lo') ∧ w'.cell? ⟨w.heap.size + 1 + 1 + 1, 0, none⟩ = some (.int .i64 I) ∧ w'.cell? ⟨w.heap.size + 1 + 1 + 1, 1, none⟩ = some (.int .u64 s1))
    ((refine H4.out _ ?_; first | assumption | exact Four.start _ _ _ _ _ _ _ _ _ _ | exact Bel.drew (Four.start _ _ _ _ _ _ _ _ _ _) | (refine Bel.drew ?_; assumption)))
    (first
      | (go_at_call_of 35 (Value.agg #[.int .i64 hi, .int .u64 (lo : Int)]); refine (HA.out _).mono ?_; rintro e w' ⟨rfl, hb⟩; have hk : Bel (Four w 24 (.int .i64 hi) (.int .u64 lo) (.int .i64 hi') (.int .u64 lo') (.int .i64 0) (.int .u64 0) (.int .i64 I) (.int .u64 s1)) w' := Bel.trans (by first | assumption | exact Four.start _ _ _ _ _ _ _ _ _ _ | exact Bel.drew (Four.start _ _ _ _ _ _ _ _ _ _) | (refine Bel.drew ?_; assumption)) hb; clear hb)
      | (go_at_call_of 35 (Value.agg #[.int .i64 hi', .int .u64 (lo' : Int)]); refine (HB'.out _).mono ?_; rintro e w' ⟨rfl, hb⟩; have hk : Bel (Four w 24 (.int .i64 hi) (.int .u64 lo) (.int .i64 hi') (.int .u64 lo') (.int .i64 0) (.int .u64 0) (.int .i64 I) (.int .u64 s1)) w' := Bel.trans (by first | assumption | exact Four.start _ _ _ _ _ _ _ _ _ _ | exact Bel.drew (Four.start _ _ _ _ _ _ _ _ _ _) | (refine Bel.drew ?_; assumption)) hb; clear hb)
      | (go_at_call_of 35 (Value.agg #[.int .i64 I, .int .u64 (s1 : Int)]); refine (HI'.out _).mono ?_; rintro e w' ⟨rfl, hb⟩; have hk : Bel (Four w 24 (.int .i64 hi) (.int .u64 lo) (.int .i64 hi') (.int .u64 lo') (.int .i64 0) (.int .u64 0) (.int .i64 I) (.int .u64 s1)) w' := Bel.trans (by first | assumption | exact Four.start _ _ _ _ _ _ _ _ _ _ | exact Bel.drew (Four.start _ _ _ _ _ _ _ _ _ _) | (refine Bel.drew ?_; assumption)) hb; clear hb))
  all_goals
    have HK := hide (HBl.out _ hk)
    obtain ⟨r1, r2, r3, r4⟩ := HR.out _ hk
    obtain ⟨p1, p2, p3, p4, p5, p6⟩ := H4.out _ hk
    clear hk
    go_wp2_with fail
    refine bodyPost_ret (v := .tuple #[.agg #[.int .i64 0, .int .u64 0], .bool false]) (by simp [results, Try.results10, go_sem, r1, r2]) rfl ⟨_, 0, rfl, Num_zero, ?_⟩
    exact below_set2 HK.out (by omega) _ _

set_option maxHeartbeats 4000000 in
set_option maxRecDepth 100000 in
theorem WSub_apart (hi hi' : Int) (lo lo' : Nat) (a b : Int) (ba bb : Bool) (ha : Num hi lo a) (hb : Num hi' lo' b) (hba : decide (hi < 0) = ba) (hbb : decide (hi' < 0) = bb) (hab : (ba == bb) = true) (w : World) :
    Calls Try.prog 10 #[.agg #[.int .i64 hi, .int .u64 lo], .agg #[.int .i64 hi', .int .u64 lo']] w (NumPost2 w true (a - b)) := by
  obtain ⟨s1, c1, hs1, e1⟩ := ex_sub64_0 lo lo'
  obtain ⟨U, hU, HU⟩ := ex_wrapu hi
  obtain ⟨U', hU', HU'⟩ := ex_wrapu hi'
  obtain ⟨s2, c2, hs2, e2⟩ := ex_sub64 U U' c1 (SubIs.le e1.out)
  obtain ⟨I, hI, HI⟩ := ex_wrapi (s2 : Int)
  have hn := sub_num ha hb HU.out HU'.out e1.out e2.out HI.out
  have HN := hide (show Num I s1 (a - b) by
    subst hba hbb
    unfold Num at ha hb ⊢
    simp at hab
    omega)
  have HA := hide (below_is hi lo ba hba)
  have HB' := hide (below_is hi' lo' bb hbb)
  have HI' := hide (below_is I s1 _ rfl)
  have H4 := hide (Four.cells w 24 (.int .i64 hi) (.int .u64 lo) (.int .i64 hi') (.int .u64 lo') (.int .i64 0) (.int .u64 0) (.int .i64 I) (.int .u64 s1))
  have HR := hide (Four.res w 24 (.int .i64 hi) (.int .u64 lo) (.int .i64 hi') (.int .u64 lo') (.int .i64 0) (.int .u64 0) (.int .i64 I) (.int .u64 s1))
  have HBl := hide fun w' (h : Bel (Four w 24 (.int .i64 hi) (.int .u64 lo) (.int .i64 hi') (.int .u64 lo') (.int .i64 0) (.int .u64 0) (.int .i64 I) (.int .u64 s1)) w') => (Four.below w 24 (.int .i64 hi) (.int .u64 lo) (.int .i64 hi') (.int .u64 lo') (.int .i64 0) (.int .u64 0) (.int .i64 I) (.int .u64 s1)).trans (h.mono (by rw [Four.size]; omega))
  clear ha hb hba hbb HU HU' e1 e2 HI hn
  go_enter Try.func10, Try.ntmps10
  go_wp2_with fail
  obtain ⟨q1, q2, q3, q4, q5, q6⟩ := H4.out _ (Four.start _ _ _ _ _ _ _ _ _ _)
  first | (go_region_with
    (first
      | (go_at_call_of 35 (Value.agg #[.int .i64 hi, .int .u64 (lo : Int)]); refine (HA.out _).mono ?_; rintro e w' ⟨rfl, hb⟩; have hk : Bel (Four w 24 (.int .i64 hi) (.int .u64 lo) (.int .i64 hi') (.int .u64 lo') (.int .i64 0) (.int .u64 0) (.int .i64 I) (.int .u64 s1)) w' := Bel.trans (by first | assumption | exact Four.start _ _ _ _ _ _ _ _ _ _ | exact Bel.drew (Four.start _ _ _ _ _ _ _ _ _ _) | (refine Bel.drew ?_; assumption)) hb; clear hb; obtain ⟨q1, q2, q3, q4, q5, q6⟩ := H4.out _ hk)
      | (go_at_call_of 35 (Value.agg #[.int .i64 hi', .int .u64 (lo' : Int)]); refine (HB'.out _).mono ?_; rintro e w' ⟨rfl, hb⟩; have hk : Bel (Four w 24 (.int .i64 hi) (.int .u64 lo) (.int .i64 hi') (.int .u64 lo') (.int .i64 0) (.int .u64 0) (.int .i64 I) (.int .u64 s1)) w' := Bel.trans (by first | assumption | exact Four.start _ _ _ _ _ _ _ _ _ _ | exact Bel.drew (Four.start _ _ _ _ _ _ _ _ _ _) | (refine Bel.drew ?_; assumption)) hb; clear hb; obtain ⟨q1, q2, q3, q4, q5, q6⟩ := H4.out _ hk))) | fail
  all_goals
    have HK := hide (HBl.out _ hk)
    obtain ⟨r1, r2, r3, r4⟩ := HR.out _ hk
    obtain ⟨p1, p2, p3, p4, p5, p6⟩ := H4.out _ hk
    clear hk
    go_wp2_with fail
    refine bodyPost_ret (v := .tuple #[.agg #[.int .i64 I, .int .u64 s1], .bool true]) (by simp [results, Try.results10, go_sem, r1, r2]) rfl ⟨_, _, rfl, HN.out, ?_⟩
    exact below_set2 HK.out (by omega) _ _

theorem WAdd_yes (hi hi' : Int) (lo lo' : Nat) (a b : Int) (ha : Num hi lo a) (hb : Num hi' lo' b) (hfit : -170141183460469231731687303715884105728 ≤ a + b ∧ a + b < 170141183460469231731687303715884105728) (w : World) :
    Calls Try.prog 9 #[.agg #[.int .i64 hi, .int .u64 lo], .agg #[.int .i64 hi', .int .u64 lo']] w (NumPost2 w true (a + b)) := by
  cases h : (decide (hi < 0) == decide (hi' < 0))
  · exact WAdd_apart hi hi' lo lo' a b _ _ ha hb rfl rfl h w
  · exact WAdd_fit hi hi' lo lo' a b _ _ ha hb rfl rfl h hfit w
theorem WAdd_no (hi hi' : Int) (lo lo' : Nat) (a b : Int) (ha : Num hi lo a) (hb : Num hi' lo' b) (hfit : a + b < -170141183460469231731687303715884105728 ∨ 170141183460469231731687303715884105728 ≤ a + b) (w : World) :
    Calls Try.prog 9 #[.agg #[.int .i64 hi, .int .u64 lo], .agg #[.int .i64 hi', .int .u64 lo']] w (NumPost2 w false 0) := by
  cases h : (decide (hi < 0) == decide (hi' < 0))
  · exfalso; unfold Num at ha hb; simp at h; omega
  · exact WAdd_over hi hi' lo lo' a b _ _ ha hb rfl rfl h hfit w

theorem WSub_yes (hi hi' : Int) (lo lo' : Nat) (a b : Int) (ha : Num hi lo a) (hb : Num hi' lo' b) (hfit : -170141183460469231731687303715884105728 ≤ a - b ∧ a - b < 170141183460469231731687303715884105728) (w : World) :
    Calls Try.prog 10 #[.agg #[.int .i64 hi, .int .u64 lo], .agg #[.int .i64 hi', .int .u64 lo']] w (NumPost2 w true (a - b)) := by
  cases h : (decide (hi < 0) == decide (hi' < 0))
  · exact WSub_fit hi hi' lo lo' a b _ _ ha hb rfl rfl h hfit w
  · exact WSub_apart hi hi' lo lo' a b _ _ ha hb rfl rfl h w
theorem WSub_no (hi hi' : Int) (lo lo' : Nat) (a b : Int) (ha : Num hi lo a) (hb : Num hi' lo' b) (hfit : a - b < -170141183460469231731687303715884105728 ∨ 170141183460469231731687303715884105728 ≤ a - b) (w : World) :
    Calls Try.prog 10 #[.agg #[.int .i64 hi, .int .u64 lo], .agg #[.int .i64 hi', .int .u64 lo']] w (NumPost2 w false 0) := by
  cases h : (decide (hi < 0) == decide (hi' < 0))
  · exact WSub_over hi hi' lo lo' a b _ _ ha hb rfl rfl h hfit w
  · exfalso; unfold Num at ha hb; simp at h; omega

end Go.Proofs.Ytoaaecggfaaplaa
