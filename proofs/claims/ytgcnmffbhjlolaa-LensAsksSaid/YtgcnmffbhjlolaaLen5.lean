/-
Contracts of lenses: what may be asked for, and from where a place comes. No statement is proved here.
-/
import Derived.Test.YtgcnmffbhjlolaaLen3
import Derived.Test.YtgcnmffbhjlolaaLen4
namespace Go.Proofs.Ytgcnmffbhjlolaa
open Go.RowKit

set_option maxHeartbeats 1000000 in
theorem LRight_any (x y d : Int) (w : World) (hx : isI64 x) (hy : isI64 y) : Calls Try.prog 22 #[.int .i64 x, .int .i64 y, .int .i64 d] w (Says w (.bool (decide (RightZ x y d)))) := by
  have e1 : decide (RightZ x y d) = (decide (∀ z ∈ [x, y], InZ z 1048576) && decide (1 ≤ d) && decide (d ≤ 16)) := by rw [right_and, all2, Bool.decide_and]
  have HW := hide (fun (w : World) (A : Option Addr) (n c : Nat) (h : IY w A n c [x, y]) => within_any 1048576 A n c [x, y] w h (by decide))
  have HI := hide (fun (w : World) (g : Nat) (h : Bx w g [.int .i64 x, .int .i64 y]) => IY.own (xs := [x, y]) h (by intro z hz; simp at hz; rcases hz with rfl | rfl; exact hx; exact hy) 2 (Nat.le_refl 2) (by decide))
  rw [e1]
  have HB := hide (below_alloc w)
  obtain ⟨b1, h1⟩ : ∃ b, decide (∀ z ∈ [x, y], InZ z 1048576) = b := ⟨_, rfl⟩
  obtain ⟨b2, h2⟩ : ∃ b, decide (1 ≤ d) = b := ⟨_, rfl⟩
  obtain ⟨b3, h3⟩ : ∃ b, decide (d ≤ 16) = b := ⟨_, rfl⟩
  rw [h1] at HW ⊢
  rw [h2, h3]
  clear e1 h1 hx hy
  cases b1
  · go_enter Try.func22, Try.ntmps22
    go_wp2_with fail
    refine Calls.mono (HW.out _ _ _ _ (HI.out _ _ (Bx.at [.int .i64 x, .int .i64 y] _ rfl))) ?_
    rintro e w1 ⟨rfl, rfl⟩
    go_wp2_with fail
    go_ret
    exact ⟨rfl, HB.out _⟩
  · cases b2
    all_goals
      go_enter Try.func22, Try.ntmps22
      go_wp2_with fail
      refine Calls.mono (HW.out _ _ _ _ (HI.out _ _ (Bx.at [.int .i64 x, .int .i64 y] _ rfl))) ?_
      rintro e w1 ⟨rfl, rfl⟩
      go_wp2_with fail
      go_ret
      exact ⟨rfl, HB.out _⟩

/-- from where a place comes: the column, the row -/
def atU (l : Ln) (x y : Int) : Int := wrap64 (l.cx + wrap64 (l.f * bU x (bG l.k1 l.k2 (bR x y) (bQ (bR x y))) l.p1 (bS x y) l.p2 (bR x y)))
def atV (l : Ln) (x y : Int) : Int := wrap64 (l.cy + wrap64 (l.f * bV y (bG l.k1 l.k2 (bR x y) (bQ (bR x y))) l.p1 (bS x y) l.p2 (bR x y)))

theorem At_nil (x y d : Int) (w : World) : Calls Try.prog 11 #[.pointer none, .int .i64 x, .int .i64 y, .int .i64 d] w (Says w (.tuple #[.int .i64 0, .int .i64 0, .int .i64 10])) := by
  have HB := hide (Below.refl w.heap.size w)
  go_enter Try.func11, Try.ntmps11
  go_wp2_with fail
  refine bodyPost_ret (v := .tuple #[.int .i64 0, .int .i64 0, .int .i64 10]) (by simp [results, Try.results11, go_sem]) rfl ⟨rfl, HB.out⟩

theorem Bound_nil (w : World) : Calls Try.prog 10 #[.pointer none] w fun e w' => e = .returned (.int .i64 0) ∧ w = w' := by
  go_enter Try.func10, Try.ntmps10
  go_wp2_with fail
  go_ret
  exact ⟨rfl, rfl⟩
theorem Bound_any (g : Nat) (l : Ln) (w : World) (h : Bx w g l.cells) (hl : l.ok) : Calls Try.prog 10 #[.pointer (some ⟨g, 0, none⟩)] w fun e w' => e = .returned (.int .i64 (12000 * l.f)) ∧ w = w' := by
  have c2 := (h.2 2 _ rfl).1
  have e1 : IntKind.i64.wrap (12000 * l.f) = 12000 * l.f := IntWalk.i64_in _ (by have := hl.2.2; omega)
  clear h hl
  go_enter Try.func10, Try.ntmps10
  go_wp2_with fail
  go_ret
  exact ⟨rfl, rfl⟩

set_option maxHeartbeats 2000000 in
theorem At_any (g : Nat) (l : Ln) (x y d : Int) (w : World) (h : Bx w g l.cells) (hl : l.ok) (hx : isI64 x) (hy : isI64 y) :
    Calls Try.prog 11 #[.pointer (some ⟨g, 0, none⟩), .int .i64 x, .int .i64 y, .int .i64 d] w
      (Says w (if RightZ x y d ∧ l.sees x y d then .tuple #[.int .i64 (atU l (asideZ x d l.cx l.f) (asideZ y d l.cy l.f)), .int .i64 (atV l (asideZ x d l.cx l.f) (asideZ y d l.cy l.f)), .int .i64 0] else .tuple #[.int .i64 0, .int .i64 0, .int .i64 11])) := by
  have HR := hide (LRight_any x y d w hx hy)
  by_cases hr : RightZ x y d
  · rw [decide_eq_true hr] at HR
    have HS := hide (fun (w : World) (h : Bx w g l.cells) => Seen_any g l x y d w h hl ⟨hr.2.2.1, hr.2.2.2⟩ (by have := hr.1; unfold InZ at this ⊢; omega) (by have := hr.2.1; unfold InZ at this ⊢; omega))
    have HX := hide h
    by_cases hs : l.sees x y d
    · rw [if_pos ⟨hr, hs⟩]
      rw [decide_eq_true hs] at HS
      obtain ⟨p, hp⟩ : ∃ p, asideZ x d l.cx l.f = p := ⟨_, rfl⟩
      obtain ⟨q, hq⟩ : ∃ q, asideZ y d l.cy l.f = q := ⟨_, rfl⟩
      rw [hp, hq] at HS ⊢
      have HT := hide (fun (w : World) (h : Bx w g l.cells) => Bent_any g l.cx l.cy l.f l.k1 l.k2 l.p1 l.p2 p q w h)
      have HU := Lib.hid (show wrap64 (l.cx + wrap64 (l.f * bU p (bG l.k1 l.k2 (bR p q) (bQ (bR p q))) l.p1 (bS p q) l.p2 (bR p q))) = atU l p q from rfl)
      have HV := Lib.hid (show wrap64 (l.cy + wrap64 (l.f * bV q (bG l.k1 l.k2 (bR p q) (bQ (bR p q))) l.p1 (bS p q) l.p2 (bR p q))) = atV l p q from rfl)
      obtain ⟨u, hu⟩ : ∃ u, bU p (bG l.k1 l.k2 (bR p q) (bQ (bR p q))) l.p1 (bS p q) l.p2 (bR p q) = u := ⟨_, rfl⟩
      obtain ⟨v, hv⟩ : ∃ v, bV q (bG l.k1 l.k2 (bR p q) (bQ (bR p q))) l.p1 (bS p q) l.p2 (bR p q) = v := ⟨_, rfl⟩
      rw [hu, hv] at HT
      rw [hu] at HU
      rw [hv] at HV
      clear h hl hx hy hr hs hp hq hu hv
      go_enter Try.func11, Try.ntmps11
      go_wp2_with fail
      refine HR.out.mono ?_
      rintro e w1 ⟨rfl, hb1⟩
      go_wp2_with fail
      refine (HS.out _ (HX.out.below hb1)).mono ?_
      rintro e w2 ⟨rfl, hb2⟩
      have hb3 : Below w.heap.size w w2 := hb1.trans (hb2.mono hb1.size)
      have HX3 := hide ((HX.out.below hb3).below (below_alloc w2 (.cells #[.int .i64 p, .int .i64 q] 56)))
      have HB3 := hide (hb3.trans ((below_alloc w2 (.cells #[.int .i64 p, .int .i64 q] 56)).mono hb3.size))
      obtain ⟨_, s0, s1, _, _⟩ := (Bx.new w2 [.int .i64 p, .int .i64 q] 56).two
      clear hb1 hb2 hb3
      go_wp2_with fail
      refine (HT.out _ HX3.out).mono ?_
      rintro e w3 ⟨rfl, hb4⟩
      have HX4 := (HX3.out.below hb4)
      have HB4 := hide (HB3.out.trans (hb4.mono HB3.out.size))
      obtain ⟨c0, c1, c2⟩ : w3.cell? ⟨g, 0, none⟩ = some (.int .i64 l.cx) ∧ w3.cell? ⟨g, 1, none⟩ = some (.int .i64 l.cy) ∧ w3.cell? ⟨g, 2, none⟩ = some (.int .i64 l.f) := ⟨(HX4.2 0 _ rfl).1, (HX4.2 1 _ rfl).1, (HX4.2 2 _ rfl).1⟩
      clear hb4 HX4 s0 s1
      go_wp2_with fail
      refine wp_region_quiet_lit (by kernel_rfl) (by kernel_rfl) ?_
      iterate 25 quiet_step (fail)
      refine wpQuiet_nil ?_
      intro _ hw'
      obtain ⟨nq, hw''⟩ := hw'
      subst hw''
      have E1 : IntKind.i64.wrap (l.cx + IntKind.i64.wrap (l.f * u)) = atU l p q := by simp only [IntWalk.i64_left]; exact HU.out
      have E2 : IntKind.i64.wrap (l.cy + IntKind.i64.wrap (l.f * v)) = atV l p q := by simp only [IntWalk.i64_left]; exact HV.out
      rw [E1, E2]
      clear E1 E2
      have HJ := hide (bdrewN HB4.out nq)
      generalize w3.drewN nq = wE at HJ ⊢
      go_wp2_with fail
      refine bodyPost_ret (v := .tuple #[.int .i64 (atU l p q), .int .i64 (atV l p q), .int .i64 0]) (by simp [results, Try.results11, go_sem]) rfl ⟨rfl, ?_⟩
      exact HJ.out
    · rw [if_neg (fun k => hs k.2)]
      rw [decide_eq_false hs] at HS
      obtain ⟨p, hp⟩ : ∃ p, asideZ x d l.cx l.f = p := ⟨_, rfl⟩
      obtain ⟨q, hq⟩ : ∃ q, asideZ y d l.cy l.f = q := ⟨_, rfl⟩
      rw [hp, hq] at HS
      clear h hl hx hy hr hs hp hq
      go_enter Try.func11, Try.ntmps11
      go_wp2_with fail
      refine HR.out.mono ?_
      rintro e w1 ⟨rfl, hb1⟩
      go_wp2_with fail
      refine (HS.out _ (HX.out.below hb1)).mono ?_
      rintro e w2 ⟨rfl, hb2⟩
      have HB3 := hide (hb1.trans ((hb2.trans ((below_alloc w2 (.cells #[.int .i64 p, .int .i64 q] 56)).mono hb2.size)).mono hb1.size))
      clear hb1 hb2
      go_wp2_with fail
      refine bodyPost_ret (v := .tuple #[.int .i64 0, .int .i64 0, .int .i64 11]) (by simp [results, Try.results11, go_sem]) rfl ⟨rfl, HB3.out⟩
  · rw [decide_eq_false hr] at HR
    rw [if_neg (fun k => hr k.1)]
    clear h hl hx hy hr
    go_enter Try.func11, Try.ntmps11
    go_wp2_with fail
    refine HR.out.mono ?_
    rintro e w1 ⟨rfl, hb1⟩
    have HB := hide hb1
    clear hb1
    go_wp2_with fail
    refine bodyPost_ret (v := .tuple #[.int .i64 0, .int .i64 0, .int .i64 11]) (by simp [results, Try.results11, go_sem]) rfl ⟨rfl, HB.out⟩
end Go.Proofs.Ytgcnmffbhjlolaa
