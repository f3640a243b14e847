/-
Contracts of lenses: from where a place comes, step by step. No statement is proved here.
-/
import Derived.Test.YtgcnmffbhjlolaaLen2
namespace Go.Proofs.Ytgcnmffbhjlolaa
open Go.RowKit

/-- divided by One, rounded down -/
def dZ (x : Int) : Int := Int.fdiv x 65536
def bR (x y : Int) : Int := dZ (wrap64 (wrap64 (x * x) + wrap64 (y * y)))
def bQ (r : Int) : Int := dZ (wrap64 (r * r))
def bG (k1 k2 r q : Int) : Int := wrap64 (wrap64 (65536 + dZ (wrap64 (k1 * r))) + dZ (wrap64 (k2 * q)))
def bS (x y : Int) : Int := dZ (wrap64 (wrap64 (2 * x) * y))
def bU (x g p1 s p2 r : Int) : Int := wrap64 (wrap64 (dZ (wrap64 (x * g)) + dZ (wrap64 (p1 * s))) + dZ (wrap64 (p2 * wrap64 (r + dZ (wrap64 (wrap64 (2 * x) * x))))))
def bV (y g p1 s p2 r : Int) : Int := wrap64 (wrap64 (dZ (wrap64 (y * g)) + dZ (wrap64 (p1 * wrap64 (r + dZ (wrap64 (wrap64 (2 * y) * y)))))) + dZ (wrap64 (p2 * s)))
theorem LDown_w (a : Int) (w : World) : Calls Try.prog 34 #[.int .i64 (wrap64 a)] w fun e w' => e = .returned (.int .i64 (dZ (wrap64 a))) ∧ w = w' := LDown_any _ w (wrap64_i64 a)
theorem RDown_w (a : Int) (w : World) : Calls Try.prog 24 #[.int .i64 (wrap64 a)] w fun e w' => e = .returned (.int .i64 (dZ (wrap64 a))) ∧ w = w' := by
  have H := hide (Down_any (wrap64 a) 65536 w (wrap64_i64 a) ⟨by decide, by decide⟩ (by decide) (by omega))
  obtain ⟨b, hb⟩ : ∃ b, wrap64 a = b := ⟨_, rfl⟩
  rw [hb] at H ⊢
  clear hb
  go_enter Try.func24, Try.ntmps24
  go_wp2_with fail
  refine H.out.mono ?_
  rintro e w1 ⟨rfl, rfl⟩
  go_wp2_with fail
  go_ret
  exact ⟨rfl, rfl⟩

theorem LDown_i (a : Int) (w : World) : Calls Try.prog 34 #[.int .i64 (IntKind.i64.wrap a)] w fun e w' => e = .returned (.int .i64 (dZ (wrap64 a))) ∧ w = w' := by rw [IntWalk.i64_left]; exact LDown_w a w
theorem RDown_i (a : Int) (w : World) : Calls Try.prog 24 #[.int .i64 (IntKind.i64.wrap a)] w fun e w' => e = .returned (.int .i64 (dZ (wrap64 a))) ∧ w = w' := by rw [IntWalk.i64_left]; exact RDown_w a w
theorem LDown_eq (a z : Int) (w : World) (h : dZ (wrap64 a) = z) : Calls Try.prog 34 #[.int .i64 (wrap64 a)] w fun e w' => e = .returned (.int .i64 z) ∧ w = w' := h ▸ LDown_w a w
theorem RDown_eq (a z : Int) (w : World) (h : dZ (wrap64 a) = z) : Calls Try.prog 24 #[.int .i64 (wrap64 a)] w fun e w' => e = .returned (.int .i64 z) ∧ w = w' := h ▸ RDown_w a w

def BentK (w : World) (g : Nat) (cs : List Value) (wx : World) : Prop := Bx wx g cs ∧ Below w.heap.size w wx
theorem BentK.drewN {w : World} {g : Nat} {cs : List Value} {wx : World} (h : BentK w g cs wx) (n : Nat) : BentK w g cs (wx.drewN n) := ⟨h.1.drewN n, bdrewN h.2 n⟩
theorem BentK.reads {w : World} {g : Nat} {a b c k1 k2 p1 p2 : Value} {wx : World} (h : BentK w g [a, b, c, k1, k2, p1, p2] wx) :
    wx.cell? ⟨g, 3, none⟩ = some k1 ∧ wx.cell? ⟨g, 4, none⟩ = some k2 ∧ wx.cell? ⟨g, 5, none⟩ = some p1 ∧ wx.cell? ⟨g, 6, none⟩ = some p2 :=
  ⟨(h.1.2 3 _ rfl).1, (h.1.2 4 _ rfl).1, (h.1.2 5 _ rfl).1, (h.1.2 6 _ rfl).1⟩

set_option maxHeartbeats 2000000 in
theorem Bent_any (g : Nat) (cx cy f k1 k2 p1 p2 x y : Int) (w : World) (h : Bx w g [.int .i64 cx, .int .i64 cy, .int .i64 f, .int .i64 k1, .int .i64 k2, .int .i64 p1, .int .i64 p2]) :
    Calls Try.prog 23 #[.pointer (some ⟨g, 0, none⟩), .agg #[.int .i64 x, .int .i64 y]] w
      (Says w (.tuple #[.int .i64 (bU x (bG k1 k2 (bR x y) (bQ (bR x y))) p1 (bS x y) p2 (bR x y)), .int .i64 (bV y (bG k1 k2 (bR x y) (bQ (bR x y))) p1 (bS x y) p2 (bR x y))])) := by
  have D := hide (fun a w n => Calls.quiet_of_same (w := w) (n := n) ((LDown_i a _).mono fun _ _ h => ⟨h.1, h.2.symm⟩))
  have HF : Hid (BentK w g [.int .i64 cx, .int .i64 cy, .int .i64 f, .int .i64 k1, .int .i64 k2, .int .i64 p1, .int .i64 p2] (w.alloc (.cells #[.int .i64 x, .int .i64 y] 56))) := ⟨h.below (below_alloc w _), below_alloc w _⟩
  have hX := Bx.new w [.int .i64 x, .int .i64 y] 56
  obtain ⟨_, s0, s1, _, _⟩ := hX.two
  clear hX h
  obtain ⟨r, hr⟩ : ∃ r, bR x y = r := ⟨_, rfl⟩
  obtain ⟨q, hq⟩ : ∃ q, bQ r = q := ⟨_, rfl⟩
  obtain ⟨v, hv⟩ : ∃ v, bG k1 k2 r q = v := ⟨_, rfl⟩
  obtain ⟨s, hs⟩ : ∃ s, bS x y = s := ⟨_, rfl⟩
  rw [hr, hq, hv, hs]
  have DR := hide (fun w => LDown_eq (wrap64 (x * x) + wrap64 (y * y)) r w hr)
  have DQ := hide (fun w => LDown_eq (r * r) q w hq)
  have DS := hide (fun w => LDown_eq (wrap64 (2 * x) * y) s w hs)
  have HV := Lib.hid hv
  clear hr hq hs hv
  go_enter Try.func23, Try.ntmps23
  go_wp2_with fail
  generalize w.alloc (.cells #[.int .i64 x, .int .i64 y] 56) = wA at *
  go_quiet (fail)
  clear s0 s1
  have HF := hide (BentK.drewN HF.out nq)
  generalize wA.drewN nq = wB at HF ⊢
  go_wp2_with fail
  refine (DR.out _).mono ?_
  rintro e w1 ⟨rfl, rfl⟩
  go_wp2_with fail
  refine (DQ.out _).mono ?_
  rintro e w1 ⟨rfl, rfl⟩
  obtain ⟨d3, d4, d5, d6⟩ := HF.out.reads
  go_wp2_with fail
  refine wp_region_quiet_lit (by kernel_rfl) (by kernel_rfl) ?_
  iterate 17 quiet_step ((go_at_call 34; exact D.out _ _ _))
  refine wpQuiet_nil ?_
  intro _ hw'
  obtain ⟨nq, hw''⟩ := hw'
  subst hw''
  have HV' : IntKind.i64.wrap (IntKind.i64.wrap (65536 + dZ (wrap64 (k1 * r))) + dZ (wrap64 (k2 * q))) = v := by rw [IntWalk.i64_left, IntWalk.i64_left]; exact HV.out
  rw [HV']
  clear HV'
  have HG := hide (BentK.drewN HF.out nq)
  clear HF d3 d4 d5 d6
  generalize wB.drewN nq = wC at HG ⊢
  go_wp2_with fail
  refine (DS.out _).mono ?_
  rintro e w1 ⟨rfl, rfl⟩
  obtain ⟨d3, d4, d5, d6⟩ := HG.out.reads
  go_wp2_with fail
  refine wp_region_quiet_lit (by kernel_rfl) (by kernel_rfl) ?_
  iterate 27 quiet_step ((go_at_call 34; exact D.out _ _ _))
  refine wpQuiet_nil ?_
  intro _ hw'
  obtain ⟨nq, hw''⟩ := hw'
  subst hw''
  have HI := hide (BentK.drewN HG.out nq)
  clear HG d3 d4 d5 d6
  generalize wC.drewN nq = wD at HI ⊢
  obtain ⟨d3, d4, d5, d6⟩ := HI.out.reads
  go_wp2_with fail
  refine wp_region_quiet_lit (by kernel_rfl) (by kernel_rfl) ?_
  iterate 27 quiet_step ((go_at_call 34; exact D.out _ _ _))
  refine wpQuiet_nil ?_
  intro _ hw'
  obtain ⟨nq, hw''⟩ := hw'
  subst hw''
  have EU : IntKind.i64.wrap (IntKind.i64.wrap (dZ (wrap64 (x * v)) + dZ (wrap64 (p1 * s))) + dZ (wrap64 (p2 * IntKind.i64.wrap (r + dZ (wrap64 (IntKind.i64.wrap (2 * x) * x)))))) = bU x v p1 s p2 r := by
    simp only [IntWalk.i64_left]; rfl
  have EV : IntKind.i64.wrap (IntKind.i64.wrap (dZ (wrap64 (y * v)) + dZ (wrap64 (p1 * IntKind.i64.wrap (r + dZ (wrap64 (IntKind.i64.wrap (2 * y) * y)))))) + dZ (wrap64 (p2 * s))) = bV y v p1 s p2 r := by
    simp only [IntWalk.i64_left]; rfl
  rw [EU, EV]
  clear EU EV
  have HJ := hide (BentK.drewN HI.out nq)
  generalize wD.drewN nq = wE at HJ ⊢
  go_wp2_with fail
  refine bodyPost_ret (v := .tuple #[.int .i64 (bU x v p1 s p2 r), .int .i64 (bV y v p1 s p2 r)]) (by simp [results, Try.results23, go_sem]) rfl ⟨rfl, ?_⟩
  exact HJ.out.2
end Go.Proofs.Ytgcnmffbhjlolaa
