/-
Contracts of lenses: a lens made; what is wrong with it. No statement is proved here.
-/
import Derived.Test.YtgcnmffbhjlolaaLen6
namespace Go.Proofs.Ytgcnmffbhjlolaa
open Go.RowKit

/-- whether a lens is seen to the image's ends -/
def Ln.seesAll (l : Ln) (sw sh : Int) : Prop := l.sees (-1) (-1) 2 ∧ l.sees (2 * sw - 1) (2 * sh - 1) 2
instance (l : Ln) (sw sh : Int) : Decidable (l.seesAll sw sh) := by unfold Ln.seesAll; infer_instance
theorem lensE_bad {xs : List Int} {sw sh : Int} (h : lensC xs sw sh ≠ 0) : lensE xs sw sh = lensC xs sw sh := if_pos h
theorem lensE_seven {l : Ln} {sw sh : Int} (h : lensC l.list sw sh = 0) : lensE l.list sw sh = if l.seesAll sw sh then 0 else 11 := by
  rw [lensE, if_neg (fun k => k h)]
  rfl

set_option maxHeartbeats 1000000 in
theorem New_bad (A : Option Addr) (n c : Nat) (xs : List Int) (sw sh : Int) (w : World)
    (hC : Calls Try.prog 19 #[.slice A n c, .int .i64 sw, .int .i64 sh] w fun e w' => e = .returned (.int .i64 (lensC xs sw sh)) ∧ w = w') (h0 : lensC xs sw sh ≠ 0) :
    Calls Try.prog 7 #[.slice A n c, .int .i64 sw, .int .i64 sh] w fun e w' => e = .returned (.tuple #[.pointer none, .int .i64 (lensE xs sw sh)]) ∧ w = w' := by
  rw [lensE_bad h0]
  have H := hide hC
  obtain ⟨e, he⟩ : ∃ e, lensC xs sw sh = e := ⟨_, rfl⟩
  rw [he] at H h0 ⊢
  have i1 : (e != 0) = true := by simpa using h0
  clear hC h0 he
  go_enter Try.func7, Try.ntmps7
  go_wp2_with fail
  refine H.out.mono ?_
  rintro e w1 ⟨rfl, rfl⟩
  go_wp2_with fail
  refine bodyPost_ret (v := .tuple #[.pointer none, .int .i64 _]) (by simp [results, Try.results7, go_sem]) rfl ⟨rfl, rfl⟩

/-- what New answers of seven numbers -/
def NewP (l : Ln) (sw sh : Int) (w : World) (e : Ending) (w' : World) : Prop :=
  Below w.heap.size w w' ∧ ∃ g, e = .returned (.tuple #[if l.seesAll sw sh then .pointer (some ⟨g, 0, none⟩) else .pointer none, .int .i64 (if l.seesAll sw sh then 0 else 11)]) ∧ w.heap.size ≤ g ∧ Bx w' g l.cells

set_option maxHeartbeats 4000000 in
theorem New_seven (l : Ln) (b o c : Nat) (sw sh : Int) (w : World) (h : IY w (some ⟨b, o, none⟩) 7 c l.list) (h0 : lensC l.list sw sh = 0) :
    Calls Try.prog 7 #[.slice (some ⟨b, o, none⟩) 7 c, .int .i64 sw, .int .i64 sh] w (NewP l sw sh w) := by
  have HC := hide (check_seven l b o c sw sh w h)
  rw [h0] at HC
  obtain ⟨_, z1, z2, z3, _, _, _, _, z4⟩ := lensC_zero h0
  have hl : l.ok := ⟨z1, z2, z3⟩
  have HS1 := hide (fun (g : Nat) (w : World) (h : Bx w g l.cells) => Seen_any g l (-1) (-1) 2 w h hl ⟨by decide, by decide⟩ (by decide) (by decide))
  have HS2 := hide (fun (g : Nat) (w : World) (h : Bx w g l.cells) => Seen_any g l (2 * sw - 1) (2 * sh - 1) 2 w h hl ⟨by decide, by decide⟩ (by unfold InZ; omega) (by unfold InZ; omega))
  have e1 : wrap64 (wrap64 (2 * sw) - 1) = 2 * sw - 1 := by rw [IntWalk.wrap64_in (2 * sw) (by omega), IntWalk.wrap64_in _ (by omega)]
  have e2 : wrap64 (wrap64 (2 * sh) - 1) = 2 * sh - 1 := by rw [IntWalk.wrap64_in (2 * sh) (by omega), IntWalk.wrap64_in _ (by omega)]
  obtain ⟨b', o', e', hlt, hcell⟩ := h.2.2.2.2 (by omega)
  cases e'
  have c0 : w.cell? ⟨b, o, none⟩ = some (.int .i64 l.cx) := hcell 0 (by omega)
  have c1 : w.cell? ⟨b, o + 1, none⟩ = some (.int .i64 l.cy) := hcell 1 (by omega)
  have c2 : w.cell? ⟨b, o + 2, none⟩ = some (.int .i64 l.f) := hcell 2 (by omega)
  have c3 : w.cell? ⟨b, o + 3, none⟩ = some (.int .i64 l.k1) := hcell 3 (by omega)
  have c4 : w.cell? ⟨b, o + 4, none⟩ = some (.int .i64 l.k2) := hcell 4 (by omega)
  have c5 : w.cell? ⟨b, o + 5, none⟩ = some (.int .i64 l.p1) := hcell 5 (by omega)
  have c6 : w.cell? ⟨b, o + 6, none⟩ = some (.int .i64 l.p2) := hcell 6 (by omega)
  have HX := hide (Bx.new w l.cells 54)
  have HB := hide (below_alloc w)
  have hg : decide (l.seesAll sw sh) = (decide (l.sees (-1) (-1) 2) && decide (l.sees (2 * sw - 1) (2 * sh - 1) 2)) := by rw [← Bool.decide_and]; rfl
  have HP := hide (show ∀ (g : Nat) (v : Bool) (w' : World), decide (l.seesAll sw sh) = v → Below w.heap.size w w' → w.heap.size ≤ g → Bx w' g l.cells → NewP l sw sh w (.returned (.tuple #[if v then .pointer (some ⟨g, 0, none⟩) else .pointer none, .int .i64 (if v then 0 else 11)])) w' from
    fun g v w' hv h1 h2 h3 => ⟨h1, g, by
      by_cases k : l.seesAll sw sh
      · rw [decide_eq_true k] at hv; subst hv; simp [k]
      · rw [decide_eq_false k] at hv; subst hv; simp [k], h2, h3⟩)
  rw [hg] at HP
  obtain ⟨b1, hb1⟩ : ∃ b, decide (l.sees (-1) (-1) 2) = b := ⟨_, rfl⟩
  obtain ⟨b2, hb2⟩ : ∃ b, decide (l.sees (2 * sw - 1) (2 * sh - 1) 2) = b := ⟨_, rfl⟩
  rw [hb1] at HS1 HP
  rw [hb2] at HS2 HP
  clear h h0 z1 z2 z3 z4 hl hcell hg hb1 hb2
  go_enter Try.func7, Try.ntmps7
  go_wp2_with fail
  refine HC.out.mono ?_
  rintro e w1 ⟨rfl, rfl⟩
  go_wp2_with fail
  refine wp_region_still_tail 22 (by kernel_rfl) (by kernel_rfl) ?_
  simp only [List.take_succ_cons, List.take_zero, List.drop_succ_cons, List.drop_zero]
  repeat (refine wpStill_step (fun K hK => ?_); go_simp; refine hK _ ?_; clear hK K)
  refine wpStill_nil ?_
  change wpList _ _ _ _ _ w.drew
  have hd : Below w.heap.size w w.drew := (Below.refl _ _).drew
  have hz : w.drew.heap.size = w.heap.size := rfl
  clear c0 c1 c2 c3 c4 c5 c6 HX HB
  generalize w.drew = wD at hd hz ⊢
  have HX : Hid (Bx (wD.alloc (.cells l.cells.toArray 54)) wD.heap.size l.cells) := Bx.new wD l.cells 54
  have HB := hide (hd.trans ((below_alloc wD (.cells l.cells.toArray 54)).mono hd.size))
  have HZ := hide hz
  clear hd hz
  go_wp2_with fail
  refine (HS1.out _ _ HX.out).mono ?_
  rintro e w2 ⟨rfl, hb2⟩
  have HX2 := hide ((HX.out.below hb2).alloc (.cells #[.int .i64 (asideZ (-1) 2 l.cx l.f), .int .i64 (asideZ (-1) 2 l.cy l.f)] 56))
  have HB2 := hide ((HB.out.trans (hb2.mono HB.out.size)).trans ((below_alloc w2 (.cells #[.int .i64 (asideZ (-1) 2 l.cx l.f), .int .i64 (asideZ (-1) 2 l.cy l.f)] 56)).mono (HB.out.trans (hb2.mono HB.out.size)).size))
  clear hb2
  go_wp2_with fail
  generalize w2.alloc (.cells #[.int .i64 (asideZ (-1) 2 l.cx l.f), .int .i64 (asideZ (-1) 2 l.cy l.f)] 56) = w3 at HX2 HB2 ⊢
  refine (HS2.out _ _ HX2.out).mono ?_
  rintro e w4 ⟨rfl, hb4⟩
  have HX4 := hide ((HX2.out.below hb4).alloc (.cells #[.int .i64 (asideZ (2 * sw - 1) 2 l.cx l.f), .int .i64 (asideZ (2 * sh - 1) 2 l.cy l.f)] 56))
  have HB4 := hide ((HB2.out.trans (hb4.mono HB2.out.size)).trans ((below_alloc w4 (.cells #[.int .i64 (asideZ (2 * sw - 1) 2 l.cx l.f), .int .i64 (asideZ (2 * sh - 1) 2 l.cy l.f)] 56)).mono (HB2.out.trans (hb4.mono HB2.out.size)).size))
  clear hb4
  cases b1
  · go_wp2_with fail
    refine bodyPost_ret (v := .tuple #[.pointer none, .int .i64 11]) (by simp [results, Try.results7, go_sem]) rfl ?_
    exact HP.out wD.heap.size false _ rfl HB4.out (Nat.le_of_eq HZ.out.symm) HX4.out
  · cases b2
    · go_wp2_with fail
      refine bodyPost_ret (v := .tuple #[.pointer none, .int .i64 11]) (by simp [results, Try.results7, go_sem]) rfl ?_
      exact HP.out wD.heap.size false _ rfl HB4.out (Nat.le_of_eq HZ.out.symm) HX4.out
    · go_wp2_with fail
      refine bodyPost_ret (v := .tuple #[.pointer (some ⟨wD.heap.size, 0, none⟩), .int .i64 0]) (by simp [results, Try.results7, go_sem]) rfl ?_
      exact HP.out wD.heap.size true _ rfl HB4.out (Nat.le_of_eq HZ.out.symm) HX4.out
end Go.Proofs.Ytgcnmffbhjlolaa
