/-
Contracts of slants: where a place comes to. No statement is proved here.
-/
import Derived.Test.YtgcnmffbhjlolabDoorShr4
namespace Go.Proofs.YtgcnmffbhjlolabDoor
open Go.RowKit

def offX1 (a x y : Int) : Int := x - rZ a y
def offY (a b x y : Int) : Int := y - rZ b (offX1 a x y)
def offX (a b x y : Int) : Int := offX1 a x y - rZ a (offY a b x y)
theorem on_off (a b x y : Int) : onX a b (offX a b x y) (offY a b x y) = x ∧ onY a b (offX a b x y) (offY a b x y) = y := by
  have h1 : onX1 a (offX a b x y) (offY a b x y) = offX1 a x y := by unfold onX1 offX; omega
  have h2 : onY a b (offX a b x y) (offY a b x y) = y := by unfold onY; rw [h1]; unfold offY; omega
  exact ⟨by unfold onX; rw [h1, h2]; unfold offX1; omega, h2⟩
theorem off_on (a b x y : Int) : offX a b (onX a b x y) (onY a b x y) = x ∧ offY a b (onX a b x y) (onY a b x y) = y := by
  have h1 : offX1 a (onX a b x y) (onY a b x y) = onX1 a x y := by unfold offX1 onX; omega
  have h2 : offY a b (onX a b x y) (onY a b x y) = y := by unfold offY; rw [h1]; unfold onY; omega
  exact ⟨by unfold offX; rw [h1, h2]; unfold onX1; omega, h2⟩
theorem Slanted_off (a b x y : Int) (w : World) (ha : slope a) (hb : slope b) (hx : -1073741824 ≤ x ∧ x ≤ 1073741824) (hy : -1073741824 ≤ y ∧ y ≤ 1073741824) :
    Calls Tryd.prog 28 #[.int .i64 x, .int .i64 y, .func (.func 31) #[.int .i64 a] #[], .func (.func 31) #[.int .i64 b] #[]] w
      fun e w' => e = .returned (.tuple #[.int .i64 (offX a b x y), .int .i64 (offY a b x y)]) ∧ w = w' := by
  have b1 := rZ_bound (z := y) 1073741824 ha hy
  have b2 := rZ_bound (a := b) (z := offX1 a x y) 5368709121 hb (by unfold offX1; omega)
  have b3 := rZ_bound (a := a) (z := offY a b x y) 22548578309 ha (by unfold offY; omega)
  have H1 := hide (Off_any a x y w ha (by omega) (by omega))
  have H2 := hide (Off_any b y (offX1 a x y) w hb (by unfold offX1; omega) (by omega))
  have H3 := hide (Off_any a (offX1 a x y) (offY a b x y) w ha (by unfold offY; omega) (by unfold offX1; omega))
  have G1 := Lib.hid (show x - rZ a y = offX1 a x y from rfl)
  have G2 := Lib.hid (show y - rZ b (offX1 a x y) = offY a b x y from rfl)
  have G3 := Lib.hid (show offX1 a x y - rZ a (offY a b x y) = offX a b x y from rfl)
  rw [G1.out] at H1
  rw [G2.out] at H2
  rw [G3.out] at H3
  clear ha hb hx hy b1 b2 b3
  go_enter Tryd.func28, Tryd.ntmps28
  go_wp2_with fail
  refine H1.out.mono ?_
  rintro e w1 ⟨rfl, rfl⟩
  go_wp2_with fail
  refine H2.out.mono ?_
  rintro e w1 ⟨rfl, rfl⟩
  go_wp2_with fail
  refine H3.out.mono ?_
  rintro e w1 ⟨rfl, rfl⟩
  go_wp2_with fail
  refine bodyPost_ret (v := .tuple #[.int .i64 (offX a b x y), .int .i64 (offY a b x y)]) (by simp [results, Tryd.results28, go_sem]) rfl ⟨rfl, rfl⟩
theorem off_bound {a b x y : Int} (ha : slope a) (hb : slope b) (hx : -536903680 ≤ x ∧ x ≤ 536903680) (hy : -536903680 ≤ y ∧ y ≤ 536903680) :
    (-47784427543 ≤ offX a b x y ∧ offX a b x y ≤ 47784427543) ∧ -47784427543 ≤ offY a b x y ∧ offY a b x y ≤ 47784427543 := by
  have b1 := rZ_bound (z := y) 536903680 ha hy
  have b2 := rZ_bound (a := b) (z := offX1 a x y) 2684518401 hb (by unfold offX1; omega)
  have b3 := rZ_bound (a := a) (z := offY a b x y) 11274977285 ha (by unfold offY; omega)
  refine ⟨?_, ?_⟩
  · show -47784427543 ≤ offX1 a x y - rZ a (offY a b x y) ∧ offX1 a x y - rZ a (offY a b x y) ≤ 47784427543
    unfold offX1 at *
    omega
  · unfold offY
    omega
def bkX (l : Sl) (x y : Int) : Int := offX l.a l.b (x - l.cx) (y - l.cy) + l.cx
def bkY (l : Sl) (x y : Int) : Int := offY l.a l.b (x - l.cx) (y - l.cy) + l.cy
theorem Back_nil (x y : Int) (w : World) : Calls Tryd.prog 17 #[.pointer none, .int .i64 x, .int .i64 y] w (Says w (.tuple #[.int .i64 0, .int .i64 0, .bool false])) := by
  have HB := hide (Below.refl w.heap.size w)
  go_enter Tryd.func17, Tryd.ntmps17
  go_wp2_with fail
  refine bodyPost_ret (v := .tuple #[.int .i64 0, .int .i64 0, .bool false]) (by simp [results, Tryd.results17, go_sem]) rfl ⟨rfl, HB.out⟩

set_option maxRecDepth 100000 in
set_option maxHeartbeats 4000000 in
theorem Back_in (g : Nat) (l : Sl) (x y : Int) (w : World) (h : Bx w g l.cells) (hl : l.ok) (hx : InZ x 536870912) (hy : InZ y 536870912) :
    Calls Tryd.prog 17 #[.pointer (some ⟨g, 0, none⟩), .int .i64 x, .int .i64 y] w (Says w (.tuple #[.int .i64 (bkX l x y), .int .i64 (bkY l x y), .bool true])) := by
  have HI1 := hide (Swithin_any x 536870912 w (by decide))
  have HI2 := hide (Swithin_any y 536870912 w (by decide))
  rw [decide_eq_true hx] at HI1
  rw [decide_eq_true hy] at HI2
  have z1 := hl.2.2.1
  have z2 := hl.2.2.2
  unfold InZ at hx hy z1 z2
  have e1 : IntKind.i64.wrap (x - l.cx) = x - l.cx := IntWalk.i64_in _ (by omega)
  have e2 : IntKind.i64.wrap (y - l.cy) = y - l.cy := IntWalk.i64_in _ (by omega)
  have hb := off_bound hl.1 hl.2.1 (x := x - l.cx) (y := y - l.cy) (by omega) (by omega)
  have HS := hide (fun w n => Calls.quiet_of_same (w := w) (n := n) ((Slanted_off l.a l.b (x - l.cx) (y - l.cy) _ hl.1 hl.2.1 (by omega) (by omega)).mono fun _ _ k => ⟨k.1, k.2.symm⟩))
  have HX := Lib.hid (show offX l.a l.b (x - l.cx) (y - l.cy) + l.cx = bkX l x y from rfl)
  have HY := Lib.hid (show offY l.a l.b (x - l.cx) (y - l.cy) + l.cy = bkY l x y from rfl)
  obtain ⟨X, hX⟩ : ∃ n, offX l.a l.b (x - l.cx) (y - l.cy) = n := ⟨_, rfl⟩
  obtain ⟨Y, hY⟩ : ∃ n, offY l.a l.b (x - l.cx) (y - l.cy) = n := ⟨_, rfl⟩
  rw [hX] at HS HX hb
  rw [hY] at HS HY hb
  have f1 : wrap64 (X + l.cx) = bkX l x y := by rw [IntWalk.wrap64_in (X + l.cx) (by omega)]; exact HX.out
  have f2 : wrap64 (Y + l.cy) = bkY l x y := by rw [IntWalk.wrap64_in (Y + l.cy) (by omega)]; exact HY.out
  obtain ⟨U, hU⟩ : ∃ n, bkX l x y = n := ⟨_, rfl⟩
  obtain ⟨V, hV⟩ : ∃ n, bkY l x y = n := ⟨_, rfl⟩
  rw [hU] at f1 ⊢
  rw [hV] at f2 ⊢
  have HF1 := Lib.hid f1
  have HF2 := Lib.hid f2
  have c0 := (h.2 0 _ rfl).1
  have c1 := (h.2 1 _ rfl).1
  have c2 := (h.2 2 _ rfl).1
  have c3 := (h.2 3 _ rfl).1
  have HB := hide (Below.refl w.heap.size w)
  have HBX := hide h
  have hmf : ∀ (fn : Fn) (first cap : Array Value) (w : World), (Instr.makeFunc fn first cap).run Tryd.prog w = .ok (.func fn first cap) w := fun _ _ _ _ => rfl
  clear h hl hx hy z1 z2 HX HY hb hX hY hU hV f1 f2
  go_enter Tryd.func17, Tryd.ntmps17
  go_wp2_with fail
  refine HI1.out.mono ?_
  rintro e w1 ⟨rfl, rfl⟩
  go_wp2_with fail
  refine HI2.out.mono ?_
  rintro e w1 ⟨rfl, rfl⟩
  go_wp2_with fail
  iterate 1
      refine wp_region_quiet_lit (by kernel_rfl) (by kernel_rfl) ?_
      iterate 28 go_big_quiet_step ((go_at_call 28; exact HS.out _ _))
      refine wpQuiet_nil ?_
      intro _ hw'
      obtain ⟨nq, hw''⟩ := hw'
      subst hw''
  have HJ := hide (bdrewN HB.out nq)
  have HX2 := hide (HBX.out.drewN nq)
  clear c0 c1 c2 c3
  generalize w.drewN nq = wE at HJ HX2 ⊢
  have c2 := (HX2.out.2 2 _ rfl).1
  have c3 := (HX2.out.2 3 _ rfl).1
  go_wp2_with fail
  iterate 1
      refine wp_region_quiet_lit (by kernel_rfl) (by kernel_rfl) ?_
      iterate 15 go_big_quiet_step (fail)
      refine wpQuiet_nil ?_
      intro _ hw'
      obtain ⟨nq, hw''⟩ := hw'
      subst hw''
  rw [HF1.out, HF2.out]
  have HJ2 := hide (bdrewN HJ.out nq)
  generalize wE.drewN nq = wF at HJ2 ⊢
  go_wp2_with fail
  refine bodyPost_ret (v := .tuple #[.int .i64 U, .int .i64 V, .bool true]) (by simp [results, Tryd.results17, go_sem]) rfl ⟨rfl, HJ2.out⟩
theorem Back_out (g : Nat) (x y : Int) (w : World) (hh : ¬ (InZ x 536870912 ∧ InZ y 536870912)) :
    Calls Tryd.prog 17 #[.pointer (some ⟨g, 0, none⟩), .int .i64 x, .int .i64 y] w (Says w (.tuple #[.int .i64 0, .int .i64 0, .bool false])) := by
  have HI1 := hide (Swithin_any x 536870912 w (by decide))
  have HI2 := hide (Swithin_any y 536870912 w (by decide))
  have HB := hide (Below.refl w.heap.size w)
  by_cases hx : InZ x 536870912
  · rw [decide_eq_true hx] at HI1
    rw [decide_eq_false (fun k => hh ⟨hx, k⟩)] at HI2
    clear hh hx
    go_enter Tryd.func17, Tryd.ntmps17
    go_wp2_with fail
    refine HI1.out.mono ?_
    rintro e w1 ⟨rfl, rfl⟩
    go_wp2_with fail
    refine HI2.out.mono ?_
    rintro e w1 ⟨rfl, rfl⟩
    go_wp2_with fail
    refine bodyPost_ret (v := .tuple #[.int .i64 0, .int .i64 0, .bool false]) (by simp [results, Tryd.results17, go_sem]) rfl ⟨rfl, HB.out⟩
  · rw [decide_eq_false hx] at HI1
    clear hh hx
    go_enter Tryd.func17, Tryd.ntmps17
    go_wp2_with fail
    refine HI1.out.mono ?_
    rintro e w1 ⟨rfl, rfl⟩
    go_wp2_with fail
    refine bodyPost_ret (v := .tuple #[.int .i64 0, .int .i64 0, .bool false]) (by simp [results, Tryd.results17, go_sem]) rfl ⟨rfl, HB.out⟩
theorem Back_any (g : Nat) (l : Sl) (x y : Int) (w : World) (h : Bx w g l.cells) (hl : l.ok) :
    Calls Tryd.prog 17 #[.pointer (some ⟨g, 0, none⟩), .int .i64 x, .int .i64 y] w (Says w (if InZ x 536870912 ∧ InZ y 536870912 then .tuple #[.int .i64 (bkX l x y), .int .i64 (bkY l x y), .bool true] else .tuple #[.int .i64 0, .int .i64 0, .bool false])) := by
  by_cases k : InZ x 536870912 ∧ InZ y 536870912
  · rw [if_pos k]; exact Back_in g l x y w h hl k.1 k.2
  · rw [if_neg k]; exact Back_out g x y w k
/-- asked where a place comes to, and from where that comes -/
theorem sh_bk (l : Sl) (x y : Int) : shX l (bkX l x y) (bkY l x y) 1 = 65536 * x ∧ shY l (bkX l x y) (bkY l x y) 1 = 65536 * y := by
  have h := on_off l.a l.b (x - l.cx) (y - l.cy)
  unfold shX shY bkX bkY
  simp only [near_one]
  rw [Int.add_sub_cancel, Int.add_sub_cancel, h.1, h.2]
  omega
/-- from where a pixel comes, in whole pixels -/
def wholeX (l : Sl) (x y : Int) : Int := onX l.a l.b (x - l.cx) (y - l.cy) + l.cx
def wholeY (l : Sl) (x y : Int) : Int := onY l.a l.b (x - l.cx) (y - l.cy) + l.cy
theorem sh_whole (l : Sl) (x y : Int) : shX l x y 1 = 65536 * wholeX l x y ∧ shY l x y 1 = 65536 * wholeY l x y := by
  unfold shX shY wholeX wholeY
  rw [near_one, near_one]
  exact ⟨rfl, rfl⟩
theorem bk_whole (l : Sl) (x y : Int) : bkX l (wholeX l x y) (wholeY l x y) = x ∧ bkY l (wholeX l x y) (wholeY l x y) = y := by
  have h := off_on l.a l.b (x - l.cx) (y - l.cy)
  unfold bkX bkY wholeX wholeY
  rw [Int.add_sub_cancel, Int.add_sub_cancel, h.1, h.2]
  omega
theorem whole_in {l : Sl} {x y : Int} (hl : l.ok) (hr : RightZ x y 1) : InZ (wholeX l x y) 536870912 ∧ InZ (wholeY l x y) 536870912 := by
  have z1 := hl.2.2.1
  have z2 := hl.2.2.2
  have r1 := hr.1
  have r2 := hr.2.1
  unfold InZ at *
  have hb := on_bound hl.1 hl.2.1 (x := x - l.cx) (y := y - l.cy) (by omega) (by omega)
  unfold wholeX wholeY
  omega
theorem tdiv_whole (k : Int) : (65536 * k).tdiv 65536 = k := Int.mul_tdiv_cancel_left _ (by decide)
end Go.Proofs.YtgcnmffbhjlolabDoor
