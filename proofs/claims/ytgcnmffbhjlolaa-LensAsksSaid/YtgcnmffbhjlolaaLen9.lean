/-
Contract of the reference's answer of a lens at a place. No statement is proved here.
-/
import Derived.Test.YtgcnmffbhjlolaaLen7
namespace Go.Proofs.Ytgcnmffbhjlolaa
open Go.RowKit

theorem quietV' {f : FuncId} {args : Array Value} {v : Value} (h : ∀ w, Calls Try.prog f args w fun e w' => e = .returned v ∧ w = w') : ∀ (w : World) (n : Nat), Calls Try.prog f args (w.drewN n) fun e w'' => e = .returned v ∧ ∃ m, w'' = w.drewN m :=
  fun w n => (h (w.drewN n)).mono fun _ _ k => ⟨k.1, n, k.2.symm⟩
/-- the numbers of a slice, and what has grown -/
def AtK (w : World) (b o : Nat) (l : Ln) (wx : World) : Prop := (∀ i v, (l.cells)[i]? = some v → wx.cell? ⟨b, o + i, none⟩ = some v) ∧ Below w.heap.size w wx
theorem AtK.drewN {w : World} {b o : Nat} {l : Ln} {wx : World} (h : AtK w b o l wx) (n : Nat) : AtK w b o l (wx.drewN n) := ⟨h.1, bdrewN h.2 n⟩
theorem AtK.reads {w : World} {b o : Nat} {l : Ln} {wx : World} (h : AtK w b o l wx) : wx.cell? ⟨b, o, none⟩ = some (.int .i64 l.cx) ∧ wx.cell? ⟨b, o + 1, none⟩ = some (.int .i64 l.cy) ∧ wx.cell? ⟨b, o + 2, none⟩ = some (.int .i64 l.f) ∧
    wx.cell? ⟨b, o + 3, none⟩ = some (.int .i64 l.k1) ∧ wx.cell? ⟨b, o + 4, none⟩ = some (.int .i64 l.k2) ∧ wx.cell? ⟨b, o + 5, none⟩ = some (.int .i64 l.p1) ∧ wx.cell? ⟨b, o + 6, none⟩ = some (.int .i64 l.p2) :=
  ⟨h.1 0 _ rfl, h.1 1 _ rfl, h.1 2 _ rfl, h.1 3 _ rfl, h.1 4 _ rfl, h.1 5 _ rfl, h.1 6 _ rfl⟩
theorem AtK.start {w : World} {b o c : Nat} {l : Ln} (h : IY w (some ⟨b, o, none⟩) 7 c l.list) : AtK w b o l w := by
  obtain ⟨b', o', e', hlt, hcell⟩ := h.2.2.2.2 (by omega)
  cases e'
  refine ⟨fun i v hv => ?_, Below.refl _ _⟩
  match i, hv with
  | 0, hv => obtain rfl : _ = v := by simpa [Ln.cells] using hv
             exact hcell 0 (by omega)
  | 1, hv => obtain rfl : _ = v := by simpa [Ln.cells] using hv
             exact hcell 1 (by omega)
  | 2, hv => obtain rfl : _ = v := by simpa [Ln.cells] using hv
             exact hcell 2 (by omega)
  | 3, hv => obtain rfl : _ = v := by simpa [Ln.cells] using hv
             exact hcell 3 (by omega)
  | 4, hv => obtain rfl : _ = v := by simpa [Ln.cells] using hv
             exact hcell 4 (by omega)
  | 5, hv => obtain rfl : _ = v := by simpa [Ln.cells] using hv
             exact hcell 5 (by omega)
  | 6, hv => obtain rfl : _ = v := by simpa [Ln.cells] using hv
             exact hcell 6 (by omega)
  | n + 7, hv => simp [Ln.cells] at hv

set_option maxRecDepth 100000 in
set_option maxHeartbeats 4000000 in
theorem RAt_any (l : Ln) (b o c : Nat) (x y d : Int) (w : World) (h : IY w (some ⟨b, o, none⟩) 7 c l.list) (hl : l.ok) (hr : RightZ x y d) :
    Calls Try.prog 13 #[.slice (some ⟨b, o, none⟩) 7 c, .int .i64 x, .int .i64 y, .int .i64 d] w
      (Says w (if l.sees x y d then .tuple #[.int .i64 (atU l (asideZ x d l.cx l.f) (asideZ y d l.cy l.f)), .int .i64 (atV l (asideZ x d l.cx l.f) (asideZ y d l.cy l.f)), .bool true] else .tuple #[.int .i64 0, .int .i64 0, .bool false])) := by
  have i1 : InZ x 2097152 := by have := hr.1; unfold InZ at this ⊢; omega
  have i2 : InZ y 2097152 := by have := hr.2.1; unfold InZ at this ⊢; omega
  have HX := hide (quietV' (fun w => Axis_any x d l.cx l.f w hl.2.2 ⟨hr.2.2.1, hr.2.2.2⟩ i1 hl.1))
  have HY := hide (quietV' (fun w => Axis_any y d l.cy l.f w hl.2.2 ⟨hr.2.2.1, hr.2.2.2⟩ i2 hl.2.1))
  have hs : l.sees x y d ↔ InZ (asideZ x d l.cx l.f) 262144 ∧ InZ (asideZ y d l.cy l.f) 262144 := Iff.rfl
  obtain ⟨p, hp⟩ : ∃ p, asideZ x d l.cx l.f = p := ⟨_, rfl⟩
  obtain ⟨q, hq⟩ : ∃ q, asideZ y d l.cy l.f = q := ⟨_, rfl⟩
  rw [hp] at HX hs ⊢
  rw [hq] at HY hs ⊢
  have HK := hide (AtK.start h)
  obtain ⟨c0, c1, c2, c3, c4, c5, c6⟩ := HK.out.reads
  have HI1 := hide (fun w => In_any p 262144 w (by decide))
  have HI2 := hide (fun w => In_any q 262144 w (by decide))
  have D := hide (fun a => quietV' (fun w => RDown_i a w))
  obtain ⟨V, hV⟩ : ∃ V, (if l.sees x y d then Value.tuple #[.int .i64 (atU l p q), .int .i64 (atV l p q), .bool true] else .tuple #[.int .i64 0, .int .i64 0, .bool false]) = V := ⟨_, rfl⟩
  rw [hV]
  have HV := Lib.hid hV
  have HS := hide hs
  clear hs h hl hr i1 i2 hp hq hV
  go_enter Try.func13, Try.ntmps13
  go_wp2_with fail
  refine wp_region_quiet_lit (by kernel_rfl) (by kernel_rfl) ?_
  iterate 10 quiet_step ((go_at_call 21; exact HX.out _ _))
  refine wpQuiet_nil ?_
  intro _ hw'
  obtain ⟨nq, hw''⟩ := hw'
  subst hw''
  have HK1 := hide (AtK.drewN HK.out nq)
  clear HK c0 c1 c2 c3 c4 c5 c6
  generalize w.drewN nq = wB at HK1 ⊢
  obtain ⟨c0, c1, c2, c3, c4, c5, c6⟩ := HK1.out.reads
  go_wp2_with fail
  refine wp_region_quiet_lit (by kernel_rfl) (by kernel_rfl) ?_
  iterate 10 quiet_step ((go_at_call 21; exact HY.out _ _))
  refine wpQuiet_nil ?_
  intro _ hw'
  obtain ⟨nq, hw''⟩ := hw'
  subst hw''
  have HK2 := hide (AtK.drewN HK1.out nq)
  clear HK1 c0 c1 c2 c3 c4 c5 c6
  generalize wB.drewN nq = wC at HK2 ⊢
  obtain ⟨c0, c1, c2, c3, c4, c5, c6⟩ := HK2.out.reads
  go_wp2_with fail
  refine (HI1.out _).mono ?_
  rintro e w1 ⟨rfl, rfl⟩
  by_cases a1 : InZ p 262144
  · rw [decide_eq_true a1]
    go_wp2_with fail
    refine (HI2.out _).mono ?_
    rintro e w1 ⟨rfl, rfl⟩
    by_cases a2 : InZ q 262144
    · rw [decide_eq_true a2]
      obtain rfl : _ = V := (if_pos (HS.out.2 ⟨a1, a2⟩)).symm.trans HV.out
      obtain ⟨r, hr⟩ : ∃ r, bR p q = r := ⟨_, rfl⟩
      obtain ⟨k, hk⟩ : ∃ k, bQ r = k := ⟨_, rfl⟩
      obtain ⟨v, hv⟩ : ∃ v, bG l.k1 l.k2 r k = v := ⟨_, rfl⟩
      obtain ⟨s, hs⟩ : ∃ s, bS p q = s := ⟨_, rfl⟩
      have DR := hide (fun w => RDown_eq (wrap64 (p * p) + wrap64 (q * q)) r w hr)
      have DQ := hide (fun w => RDown_eq (r * r) k w hk)
      have DS := hide (fun w => RDown_eq (wrap64 (2 * p) * q) s w hs)
      have HG := Lib.hid hv
      have HU := Lib.hid (show wrap64 (l.cx + wrap64 (l.f * bU p v l.p1 s l.p2 r)) = atU l p q by rw [← hv, ← hs, ← hk, ← hr]; rfl)
      have HW := Lib.hid (show wrap64 (l.cy + wrap64 (l.f * bV q v l.p1 s l.p2 r)) = atV l p q by rw [← hv, ← hs, ← hk, ← hr]; rfl)
      obtain ⟨U, hU⟩ : ∃ U, atU l p q = U := ⟨_, rfl⟩
      obtain ⟨T, hT⟩ : ∃ T, atV l p q = T := ⟨_, rfl⟩
      rw [hU] at HU
      rw [hT] at HW
      clear a1 a2 HS HV hr hk hv hs
      go_wp2_with fail
      refine (DR.out _).mono ?_
      rintro e w1 ⟨rfl, rfl⟩
      go_wp2_with fail
      refine (DQ.out _).mono ?_
      rintro e w1 ⟨rfl, rfl⟩
      go_wp2_with fail
      refine wp_region_quiet_lit (by kernel_rfl) (by kernel_rfl) ?_
      iterate 15 quiet_step ((go_at_call 24; exact D.out _ _ _))
      refine wpQuiet_nil ?_
      intro _ hw'
      obtain ⟨nq, hw''⟩ := hw'
      subst hw''
      have EG : IntKind.i64.wrap (IntKind.i64.wrap (65536 + dZ (wrap64 (l.k1 * r))) + dZ (wrap64 (l.k2 * k))) = v := by rw [IntWalk.i64_left, IntWalk.i64_left]; exact HG.out
      rw [EG]
      clear EG
      have HK3 := hide (AtK.drewN HK2.out nq)
      clear HK2 c0 c1 c2 c3 c4 c5 c6
      generalize wC.drewN nq = wD at HK3 ⊢
      obtain ⟨c0, c1, c2, c3, c4, c5, c6⟩ := HK3.out.reads
      go_wp2_with fail
      refine (DS.out _).mono ?_
      rintro e w1 ⟨rfl, rfl⟩
      go_wp2_with fail
      refine wp_region_quiet_lit (by kernel_rfl) (by kernel_rfl) ?_
      iterate 25 quiet_step ((go_at_call 24; exact D.out _ _ _))
      refine wpQuiet_nil ?_
      intro _ hw'
      obtain ⟨nq, hw''⟩ := hw'
      subst hw''
      have EU : IntKind.i64.wrap (IntKind.i64.wrap (dZ (wrap64 (p * v)) + dZ (wrap64 (l.p1 * s))) + dZ (wrap64 (l.p2 * IntKind.i64.wrap (r + dZ (wrap64 (IntKind.i64.wrap (2 * p) * p)))))) = bU p v l.p1 s l.p2 r := by
        simp only [IntWalk.i64_left]; rfl
      rw [EU]
      obtain ⟨u1, hu1⟩ : ∃ u, bU p v l.p1 s l.p2 r = u := ⟨_, rfl⟩
      rw [hu1] at HU ⊢
      clear EU hu1
      have HK4 := hide (AtK.drewN HK3.out nq)
      clear HK3 c0 c1 c2 c3 c4 c5 c6
      generalize wD.drewN nq = wE at HK4 ⊢
      obtain ⟨c0, c1, c2, c3, c4, c5, c6⟩ := HK4.out.reads
      go_wp2_with fail
      refine wp_region_quiet_lit (by kernel_rfl) (by kernel_rfl) ?_
      iterate 25 quiet_step ((go_at_call 24; exact D.out _ _ _))
      refine wpQuiet_nil ?_
      intro _ hw'
      obtain ⟨nq, hw''⟩ := hw'
      subst hw''
      have EV : IntKind.i64.wrap (IntKind.i64.wrap (dZ (wrap64 (q * v)) + dZ (wrap64 (l.p1 * IntKind.i64.wrap (r + dZ (wrap64 (IntKind.i64.wrap (2 * q) * q)))))) + dZ (wrap64 (l.p2 * s))) = bV q v l.p1 s l.p2 r := by
        simp only [IntWalk.i64_left]; rfl
      rw [EV]
      obtain ⟨v1, hv1⟩ : ∃ u, bV q v l.p1 s l.p2 r = u := ⟨_, rfl⟩
      rw [hv1] at HW ⊢
      clear EV hv1
      have HK5 := hide (AtK.drewN HK4.out nq)
      clear HK4 c0 c1 c2 c3 c4 c5 c6
      generalize wE.drewN nq = wF at HK5 ⊢
      obtain ⟨c0, c1, c2, c3, c4, c5, c6⟩ := HK5.out.reads
      go_wp2_with fail
      refine wp_region_quiet_lit (by kernel_rfl) (by kernel_rfl) ?_
      iterate 21 quiet_step (fail)
      refine wpQuiet_nil ?_
      intro _ hw'
      obtain ⟨nq, hw''⟩ := hw'
      subst hw''
      have E1 : IntKind.i64.wrap (l.cx + IntKind.i64.wrap (l.f * u1)) = U := by simp only [IntWalk.i64_left]; exact HU.out
      have E2 : IntKind.i64.wrap (l.cy + IntKind.i64.wrap (l.f * v1)) = T := by simp only [IntWalk.i64_left]; exact HW.out
      rw [E1, E2]
      clear E1 E2
      have HK6 := hide (AtK.drewN HK5.out nq)
      clear HK5 c0 c1 c2 c3 c4 c5 c6
      generalize wF.drewN nq = wG at HK6 ⊢
      obtain ⟨c0, c1, c2, c3, c4, c5, c6⟩ := HK6.out.reads
      go_wp2_with fail
      refine bodyPost_ret (v := .tuple #[.int .i64 U, .int .i64 T, .bool true]) (by simp [results, Try.results13, go_sem]) rfl ⟨?_, HK6.out.2⟩
      rw [← hU, ← hT]
    · rw [decide_eq_false a2]
      obtain rfl : _ = V := (if_neg (fun z => a2 (HS.out.1 z).2)).symm.trans HV.out
      clear a1 a2
      go_wp2_with fail
      refine bodyPost_ret (v := .tuple #[.int .i64 0, .int .i64 0, .bool false]) (by simp [results, Try.results13, go_sem]) rfl ⟨rfl, HK2.out.2⟩
  · rw [decide_eq_false a1]
    obtain rfl : _ = V := (if_neg (fun z => a1 (HS.out.1 z).1)).symm.trans HV.out
    clear a1
    go_wp2_with fail
    refine bodyPost_ret (v := .tuple #[.int .i64 0, .int .i64 0, .bool false]) (by simp [results, Try.results13, go_sem]) rfl ⟨rfl, HK2.out.2⟩
end Go.Proofs.Ytgcnmffbhjlolaa
