/-
The law WideProducts: its walk. No statement is proved here.
-/
import Derived.Test.YtkobdjlpbibobaaScale
import Derived.Test.YtkobdjlpbibobaaAlive1
namespace Go.Proofs.Ytkobdjlpbibobaa
open Go.RowKit

set_option maxHeartbeats 4000000 in
theorem WideProducts_walk (h1 : Int) (l1 : Nat) (a x y : Int) (ha : Num h1 l1 a) (hx : -9223372036854775808 ≤ x ∧ x ≤ 9223372036854775807) (hy : -9223372036854775808 ≤ y ∧ y ≤ 9223372036854775807) (w : World) :
    Calls Try.prog 4 #[.agg #[.int .i64 h1, .int .u64 l1], .int .i64 x, .int .i64 y] w (Says w (.bool true)) := by
  have HSc := hide (fun w => WScale_tol h1 l1 a x ha hx w)
  have HM := hide (fun w => WMul_any x y hx hy w)
  have HX := hide (fun w => Of_any x w hx.1 hx.2)
  have HY := hide (fun w => Of_any y w hy.1 hy.2)
  have HBg := hide (fun w => LBig_any h1 l1 a ha w)
  have HAl := hide alive1_any
  have H0 := hide (below_alloc w (.cells #[.int .i64 h1, .int .u64 l1] 24))
  clear ha hx hy
  go_enter Try.func4, Try.ntmps4
  go_wp2_with fail
  refine (HSc.out _).mono ?_
  rintro e w1 ⟨h5, l5, b5, rfl, hT, hb1⟩
  obtain ⟨hc, hf⟩ := bcell hb1
  have hz := hb1.size
  simp at hz
  have hW : ∀ w', Bel (w1.alloc (.cells #[.int .i64 h5, .int .u64 l5] 24)) w' → w'.cell? ⟨w.heap.size, 0, none⟩ = some (.int .i64 h1) ∧ w'.cell? ⟨w.heap.size, 1, none⟩ = some (.int .u64 l1) ∧ w'.cell? ⟨w1.heap.size, 0, none⟩ = some (.int .i64 h5) ∧ w'.cell? ⟨w1.heap.size, 1, none⟩ = some (.int .u64 l5) := fun w' h => by
    refine ⟨?_, ?_, ?_, ?_⟩
    · rw [h.cell 0 (by simp; omega), World.cell?_alloc_lt w1 _ _ (show w.heap.size < w1.heap.size by omega), hc _ _ (by simp)]; simp [go_sem]
    · rw [h.cell 1 (by simp; omega), World.cell?_alloc_lt w1 _ _ (show w.heap.size < w1.heap.size by omega), hc _ _ (by simp)]; simp [go_sem]
    · rw [h.cell 0 (by simp)]; simp [go_sem]
    · rw [h.cell 1 (by simp)]; simp [go_sem]
  have HW := hide hW
  have HL := hide fun w' (h : Bel (w1.alloc (.cells #[.int .i64 h5, .int .u64 l5] 24)) w') => ((H0.out.trans (hb1.mono (by simp))).alloc (by omega) _).trans (Below.mono h (show w.heap.size ≤ (w1.alloc (.cells #[.int .i64 h5, .int .u64 l5] 24)).heap.size by simp; omega))
  have HT := hide hT
  clear hc hf hW hb1 hT
  obtain ⟨W, hWW⟩ : ∃ W, W = w1.alloc (.cells #[.int .i64 h5, .int .u64 l5] 24) := ⟨_, rfl⟩
  rw [← hWW] at HW HL
  go_wp2_with fail
  rw [← hWW]
  clear hWW
  go_region_held3 (fun w' => w'.cell? ⟨w.heap.size, 0, none⟩ = some (.int .i64 h1) ∧ w'.cell? ⟨w.heap.size, 1, none⟩ = some (.int .u64 l1) ∧ w'.cell? ⟨w1.heap.size, 0, none⟩ = some (.int .i64 h5) ∧ w'.cell? ⟨w1.heap.size, 1, none⟩ = some (.int .u64 l5))
    ((refine HW.out _ ?_; repeat (first | assumption | exact Bel.refl _ | refine Bel.drew ?_)))
    (first
      | (go_at_call 16; refine (Told_any 16 (by omega) h5 l5 b5 (a * x) _ _ _ _ _ HT.out hBax.out).mono ?_; rintro e w10 ⟨rfl, hb⟩; have hk10 : Bel W w10 := Bel.trans (by repeat (first | assumption | exact Bel.refl _ | refine Bel.drew ?_)) hb; clear hb hBax)
      | (go_at_call 16; refine (Told_fit 11 (by omega) _ _ (x * y) _ _ _ _ _ hNxy.out hBxy.out).mono ?_; rintro e w6 ⟨rfl, hb⟩; have hk6 : Bel W w6 := Bel.trans (by repeat (first | assumption | exact Bel.refl _ | refine Bel.drew ?_)) hb; clear hb hBxy hNxy)
      | (go_at_call 25; refine (Mul_any 10 5 (by omega) (by omega) _ _ _ _ _ _ _ _ a x _ hBa.out hBx2.out).mono ?_; rintro e w9 ⟨s9, A9, n9, c9, rfl, hB, hb⟩; have hk9 : Bel W w9 := Bel.trans (by repeat (first | assumption | exact Bel.refl _ | refine Bel.drew ?_)) hb; have hBax := hide hB; clear hb hB hBa hBx2)
      | (go_at_call 25; refine (Mul_any 5 5 (by omega) (by omega) _ _ _ _ _ _ _ _ x y _ hBx1.out hBy.out).mono ?_; rintro e w5 ⟨s5, A5, n5, c5, rfl, hB, hb⟩; have hk5 : Bel W w5 := Bel.trans (by repeat (first | assumption | exact Bel.refl _ | refine Bel.drew ?_)) hb; have hBxy := hide hB; clear hb hB hBx1 hBy)
      | (go_at_call_of 21 (Value.int IntKind.i64 x); refine (HX.out _).mono ?_; rintro e w8 ⟨s8, A8, n8, c8, rfl, hB, hb⟩; have hk8 : Bel W w8 := Bel.trans (by repeat (first | assumption | exact Bel.refl _ | refine Bel.drew ?_)) hb; have hBa' := hide (BV.below hBa.out hb); clear hBa; have hBa := hBa'; clear hBa'; have hBx2 := hide hB; clear hb hB)
      | (go_at_call_of 21 (Value.int IntKind.i64 x); refine (HX.out _).mono ?_; rintro e w3 ⟨s3, A3, n3, c3, rfl, hB, hb⟩; have hk3 : Bel W w3 := Bel.trans (by repeat (first | assumption | exact Bel.refl _ | refine Bel.drew ?_)) hb; have hBx1 := hide hB; clear hb hB)
      | (go_at_call_of 21 (Value.int IntKind.i64 y); refine (HY.out _).mono ?_; rintro e w4 ⟨s4, A4, n4, c4, rfl, hB, hb⟩; have hk4 : Bel W w4 := Bel.trans (by repeat (first | assumption | exact Bel.refl _ | refine Bel.drew ?_)) hb; have hBx1' := hide (BV.below hBx1.out hb); clear hBx1; have hBx1 := hBx1'; clear hBx1'; have hBy := hide hB; clear hb hB)
      | (go_at_call 12; refine (HBg.out _).mono ?_; rintro e w7 ⟨s7, A7, n7, c7, rfl, hB, hb⟩; have hk7 : Bel W w7 := Bel.trans (by repeat (first | assumption | exact Bel.refl _ | refine Bel.drew ?_)) hb; have hBa := hide hB; clear hb hB)
      | (go_at_call 24; refine (HM.out _).mono ?_; rintro e w2 ⟨hm, lm, rfl, hN, hb⟩; have hk2 : Bel W w2 := Bel.trans (by repeat (first | assumption | exact Bel.refl _ | refine Bel.drew ?_)) hb; have hNxy := hide hN; clear hb hN)
      | (go_at_call 22; refine (HAl.out _).mono ?_; rintro e w11 ⟨rfl, hb⟩; have hk11 : Bel W w11 := Bel.trans (by repeat (first | assumption | exact Bel.refl _ | refine Bel.drew ?_)) hb; clear hb))
  have hfin := HL.out _ hk11
  go_wp2_with fail
  go_ret
  exact ⟨rfl, hfin⟩

end Go.Proofs.Ytkobdjlpbibobaa
