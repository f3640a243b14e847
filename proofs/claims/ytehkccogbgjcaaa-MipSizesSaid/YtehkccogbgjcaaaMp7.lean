/-
Contract of mip.Half, of the smallest image. No statement is proved here.
-/
import Derived.Test.YtehkccogbgjcaaaMp2
import Derived.Test.YtehkccogbgjcaaaMp6
import Derived.Deep.RegionHeld3
namespace Go.Proofs.Ytehkccogbgjcaaa
open Go.RowKit

def HfK (w : World) (gb g g7 : Nat) (b : Int) (w' : World) : Prop :=
  Bx w' w.heap.size [.int .i64 2, .int .i64 1, .int .i64 1, .slice (some ⟨gb, 0, none⟩) 2 2] ∧ Bx w' (w.heap.size + 1) [.int .i64 0, .int .i64 0, .int .i64 0, .slice none 0 0] ∧ Bx w' g7 [.int .i64 1, .int .i64 1, .int .i64 1, .slice (some ⟨g, 0, none⟩) 1 1] ∧ Bx w' g [.int .u8 b] ∧ Bx w' gb [.int .u8 1, .int .u8 2] ∧ Below w.heap.size w w'
theorem HfK.below {w w1 w2 : World} {gb g g7 : Nat} {b : Int} (h : HfK w gb g g7 b w1) (hb : Below w1.heap.size w1 w2) : HfK w gb g g7 b w2 :=
  ⟨h.1.below hb, h.2.1.below hb, h.2.2.1.below hb, h.2.2.2.1.below hb, h.2.2.2.2.1.below hb, h.2.2.2.2.2.trans (hb.mono h.2.2.2.2.2.size)⟩
theorem HfK.drewN {w w1 : World} {gb g g7 : Nat} {b : Int} (h : HfK w gb g g7 b w1) (m : Nat) : HfK w gb g g7 b (w1.drewN m) :=
  ⟨h.1.drewN m, h.2.1.drewN m, h.2.2.1.drewN m, h.2.2.2.1.drewN m, h.2.2.2.2.1.drewN m, bdrewN h.2.2.2.2.2 m⟩
theorem Bx.set1 {w : World} {g : Nat} {x0 : Value} (h : Bx w g [x0]) (u : Value) : Bx (w.setCell ⟨g, 0, none⟩ u) g [u] := by
  obtain ⟨h0, c0, f0⟩ := h.one
  refine ⟨by simpa using h0, fun i v hv => ?_⟩
  match i, hv with
  | 0, hv => simp at hv; subst hv; refine ⟨?_, by simpa using f0⟩; simp [go_sem, c0]
  | i + 1, hv => simp at hv
theorem HfK.put {w w1 : World} {gb g g7 : Nat} {b : Int} (h : HfK w gb g g7 b w1) (h1 : w.heap.size + 2 ≤ g) (h2 : g ≠ g7) (h3 : gb ≠ g) (u : Int) : HfK w gb g g7 u (w1.setCell ⟨g, 0, none⟩ (.int .u8 u)) :=
  ⟨h.1.other (by omega) _, h.2.1.other (by omega) _, h.2.2.1.other (fun e => h2 e.symm) _, h.2.2.2.1.set1 _, h.2.2.2.2.1.other h3 _, h.2.2.2.2.2.setCell (show w.heap.size ≤ g by omega) _⟩
set_option maxRecDepth 100000 in
set_option maxHeartbeats 8000000 in
theorem Half_one (gb : Nat) (w : World) (h : Bx w gb [.int .u8 1, .int .u8 2]) :
    Calls Try.prog 70 #[.agg #[.int .i64 2, .int .i64 1, .int .i64 1, .slice (some ⟨gb, 0, none⟩) 2 2]] w fun e w' => ∃ g, e = .returned (.tuple #[.agg #[.int .i64 1, .int .i64 1, .int .i64 1, .slice (some ⟨g, 0, none⟩) 1 1], .int .i64 0]) ∧ Bx w' g [.int .u8 2] ∧ Below w.heap.size w w' := by
  have hgb := h.1
  have H0 := hide (below_alloc2 w (.cells #[.int .i64 2, .int .i64 1, .int .i64 1, .slice (some ⟨gb, 0, none⟩) 2 2] 72) (.cells #[.int .i64 0, .int .i64 0, .int .i64 0, .slice none 0 0] 72))
  have X0 := hide ((Bx.at (w := w) (g := w.heap.size) [.int .i64 2, .int .i64 1, .int .i64 1, .slice (some ⟨gb, 0, none⟩) 2 2] 72 rfl).alloc (.cells #[.int .i64 0, .int .i64 0, .int .i64 0, .slice none 0 0] 72))
  have X1 := hide (Bx.at (w := w.alloc (.cells #[.int .i64 2, .int .i64 1, .int .i64 1, .slice (some ⟨gb, 0, none⟩) 2 2] 72)) (g := w.heap.size + 1) [.int .i64 0, .int .i64 0, .int .i64 0, .slice none 0 0] 72 (by simp))
  have XB := hide (h.below H0.out)
  have HC := hide (fun w => ICheck_one gb w)
  have HS := hide (fun w => Size_any 2 1 1 w)
  rw [show sizeW 2 1 1 = 1 by decide, show sizeH 2 1 1 = 1 by decide] at HS
  have HN := hide INew_one
  clear h
  obtain ⟨_, a0, a1, a2, a3, _, _, _, _⟩ := X0.out.four
  go_enter Try.func70, Try.ntmps70
  go_wp2_with fail
  refine (HC.out _).mono ?_
  rintro e w1 ⟨rfl, hb⟩
  have L1 := hide (H0.out.trans (hb.mono H0.out.size))
  have Y0 := hide (X0.out.below hb)
  have Y1 := hide (X1.out.below hb)
  have YB := hide (XB.out.below hb)
  have hz1 := hide (show w.heap.size + 2 ≤ w1.heap.size by have := hb.size; simp at this; omega)
  clear hb a0 a1 a2 a3 X0 X1 XB H0
  obtain ⟨_, a0, a1, a2, a3, _, _, _, _⟩ := Y0.out.four
  go_wp2_with fail
  refine (HS.out _).mono ?_
  rintro e w' ⟨rfl, rfl⟩
  go_wp2_with fail
  refine (HN.out _).mono ?_
  rintro e w2 ⟨g, rfl, hge, hbx, hb⟩
  have K0 := hide (show HfK w gb g w2.heap.size 0 (w2.alloc (.cells #[.int .i64 1, .int .i64 1, .int .i64 1, .slice (some ⟨g, 0, none⟩) 1 1] 72)) from ⟨(Y0.out.below hb).alloc _, (Y1.out.below hb).alloc _, Bx.at [.int .i64 1, .int .i64 1, .int .i64 1, .slice (some ⟨g, 0, none⟩) 1 1] 72 rfl, hbx.alloc _, (YB.out.below hb).alloc _, (L1.out.trans (hb.mono L1.out.size)).alloc (L1.out.trans (hb.mono L1.out.size)).size _⟩)
  have hg1 := hide (show w.heap.size + 2 ≤ g by have := hz1.out; omega)
  have hg2 := hide (show g ≠ w2.heap.size by have := hbx.1; omega)
  have hg3 := hide (show gb ≠ g by have := hz1.out; omega)
  have hg4 := hide (show w2.heap.size ≠ w.heap.size + 1 by have := hz1.out; have := hb.size; omega)
  clear hb hbx hge a0 a1 a2 a3 Y0 Y1 YB L1 hz1
  obtain ⟨_, a0, a1, a2, a3, _, _, _, _⟩ := K0.out.1.four
  obtain ⟨_, b0, b1, b2, b3, _, _, _, _⟩ := K0.out.2.2.1.four
  go_wp2_with fail
  go_loopw [33] (fun i wr => (i = .int .i64 0 ∧ HfK w gb g w2.heap.size 0 wr) ∨ (i = .int .i64 1 ∧ HfK w gb g w2.heap.size 2 wr)) (fun i _ => 1 - (intOf i).toNat)
  case atStart => exact Or.inl ⟨rfl, K0.out⟩
  case round =>
    clear a0 a1 a2 a3 b0 b1 b2 b3 K0
    rcases hrel with ⟨rfl, hK⟩ | ⟨rfl, hK⟩
    · have KK := hide hK
      clear hK
      have HP := hide (fun w' (h : HfK w gb g w2.heap.size 0 w') m => (h.drewN m).put hg1.out hg2.out hg3.out 2)
      have HM := hide (fun w' (h : HfK w gb g w2.heap.size 0 w') => (MMix_one g gb w' h.2.2.2.1 h.2.2.2.2.1).mono (fun e w'' hh => (⟨hh.1, by obtain ⟨m, rfl⟩ := hh.2; exact HP.out w' h m⟩ : e = .returned (.tuple #[]) ∧ HfK w gb g w2.heap.size 2 w'')))
      have HR1 := hide (fun w => MRow_any 1 1 1 g 1 1 1 w (by have := IntWalk.wrap64_in (1 * 1) (by decide); simpa using this) (by omega) (by omega))
      have HR2 := hide (fun w => MRow_any 2 1 1 gb 2 2 2 w (by have := IntWalk.wrap64_in (2 * 1) (by decide); simpa using this) (by omega) (by omega))
      have KD := hide (fun (b : Int) w' (h : HfK w gb g w2.heap.size b w') => (⟨h.2.2.1.four.2.1, h.2.2.1.four.2.2.1, h.2.2.1.four.2.2.2.1, h.2.2.1.four.2.2.2.2.1, h.1.four.2.1, h.1.four.2.2.1, h.1.four.2.2.2.1, h.1.four.2.2.2.2.1⟩ : w'.cell? ⟨w2.heap.size, 0, none⟩ = some (.int .i64 1) ∧ w'.cell? ⟨w2.heap.size, 1, none⟩ = some (.int .i64 1) ∧ w'.cell? ⟨w2.heap.size, 2, none⟩ = some (.int .i64 1) ∧ w'.cell? ⟨w2.heap.size, 3, none⟩ = some (.slice (some ⟨g, 0, none⟩) 1 1) ∧ w'.cell? ⟨w.heap.size, 0, none⟩ = some (.int .i64 2) ∧ w'.cell? ⟨w.heap.size, 1, none⟩ = some (.int .i64 1) ∧ w'.cell? ⟨w.heap.size, 2, none⟩ = some (.int .i64 1) ∧ w'.cell? ⟨w.heap.size, 3, none⟩ = some (.slice (some ⟨gb, 0, none⟩) 2 2)))
      have KC := hide (fun w' (h : Bel wr w') => KD.out 0 w' (KK.out.below h))
      have KG := hide (fun w' (h : Bel wr w') => KK.out.below h)
      clear KK
      go_wp2_with fail
      go_region_held3 (fun w' => w'.cell? ⟨w2.heap.size, 0, none⟩ = some (.int .i64 1) ∧ w'.cell? ⟨w2.heap.size, 1, none⟩ = some (.int .i64 1) ∧ w'.cell? ⟨w2.heap.size, 2, none⟩ = some (.int .i64 1) ∧ w'.cell? ⟨w2.heap.size, 3, none⟩ = some (.slice (some ⟨g, 0, none⟩) 1 1) ∧ w'.cell? ⟨w.heap.size, 0, none⟩ = some (.int .i64 2) ∧ w'.cell? ⟨w.heap.size, 1, none⟩ = some (.int .i64 1) ∧ w'.cell? ⟨w.heap.size, 2, none⟩ = some (.int .i64 1) ∧ w'.cell? ⟨w.heap.size, 3, none⟩ = some (.slice (some ⟨gb, 0, none⟩) 2 2))
        (((first | (with_reducible exact KD.out 2 _ (by assumption)) | (refine KC.out _ ?_)); repeat (first | assumption | exact Bel.refl _ | refine Bel.drew ?_)))
        (first
          | (go_at_call_of 93 (Value.agg #[.int .i64 1, .int .i64 1, .int .i64 1, .slice (some ⟨g, 0, none⟩) 1 1]); refine (HR1.out _).mono ?_; rintro e w5 ⟨rfl, hb⟩; have k5 : Bel wr w5 := Bel.trans (by repeat (first | assumption | exact Bel.refl _ | refine Bel.drew ?_)) hb; clear hb)
          | (go_at_call_of 93 (Value.agg #[.int .i64 2, .int .i64 1, .int .i64 1, .slice (some ⟨gb, 0, none⟩) 2 2]); refine (HR2.out _).mono ?_; rintro e w6 ⟨rfl, hb⟩; have k6 : Bel wr w6 := Bel.trans (by repeat (first | assumption | exact Bel.refl _ | refine Bel.drew ?_)) hb; clear hb)
          | (go_at_call 92; refine (HM.out _ (KG.out _ (by repeat (first | assumption | exact Bel.refl _ | refine Bel.drew ?_)))).mono ?_; rintro e w7 ⟨rfl, hK7⟩)
          | fail)
      all_goals
        have K7 := hide hK7
        clear hK7
        go_wp2_with fail
        go_roundw
        case rel => exact Or.inr ⟨rfl, K7.out⟩
        case measure => simp [intOf]
    · have KK := hide hK
      clear hK
      obtain ⟨_, b0, b1, b2, b3, _, _, _, _⟩ := KK.out.2.2.1.four
      obtain ⟨_, d0, d1, d2, d3, f0, f1, f2, f3⟩ := KK.out.2.1.four
      go_wp2_with fail
      refine bodyPost_ret (v := .tuple #[.agg #[.int .i64 1, .int .i64 1, .int .i64 1, .slice (some ⟨g, 0, none⟩) 1 1], .int .i64 0]) (by simp [results, Try.results70, go_sem, d0, d1, d2, d3]) rfl ?_
      refine ⟨g, rfl, ?_, below_set4 KK.out.2.2.2.2.2 (by omega) _ _ _ _⟩
      exact ((((KK.out.2.2.2.1.other (by have := hg1.out; omega) _).other (by have := hg1.out; omega) _).other (by have := hg1.out; omega) _).other (by have := hg1.out; omega) _)
end Go.Proofs.Ytehkccogbgjcaaa
