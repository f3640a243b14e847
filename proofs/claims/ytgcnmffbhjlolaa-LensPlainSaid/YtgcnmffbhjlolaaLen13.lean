/-
The law LensPlain: its walk. No statement is proved here.
-/
import Derived.Test.YtgcnmffbhjlolaaLen12
namespace Go.Proofs.Ytgcnmffbhjlolaa
open Go.RowKit

def plainL (m m' : Int) : Ln := ⟨m, m', 1, 0, 0, 0, 0⟩
theorem Plain_any (a b f : Int) (w : World) : Calls Try.prog 17 #[.int .i64 a, .int .i64 b, .int .i64 f] w
    fun e w' => e = .returned (.slice (some ⟨w.heap.size, 0, none⟩) 7 7) ∧ w' = w.alloc (.cells #[.int .i64 a, .int .i64 b, .int .i64 f, .int .i64 0, .int .i64 0, .int .i64 0, .int .i64 0] 2) := by
  go_enter Try.func17, Try.ntmps17
  go_wp2_with fail
  go_ret
  exact ⟨rfl, rfl⟩
theorem wrap64_0 : wrap64 0 = 0 := IntWalk.wrap64_in 0 (by omega)
theorem bG_zero (r q : Int) : bG 0 0 r q = 65536 := by
  unfold bG dZ
  rw [Int.zero_mul, Int.zero_mul, wrap64_0, Int.zero_fdiv, Int.add_zero, Int.add_zero, IntWalk.wrap64_in 65536 (by omega), IntWalk.wrap64_in 65536 (by omega)]
theorem dZ_times {p : Int} (h : InZ p 1048576) : dZ (wrap64 (p * 65536)) = p := by
  unfold InZ at h
  rw [IntWalk.wrap64_in _ (by omega)]
  exact Int.mul_fdiv_cancel _ (by decide)
theorem bU_zero {p : Int} (h : InZ p 1048576) (s r : Int) : bU p 65536 0 s 0 r = p := by
  unfold bU
  rw [dZ_times h, Int.zero_mul, Int.zero_mul, wrap64_0]
  unfold InZ at h
  rw [show dZ 0 = 0 from rfl, Int.add_zero, Int.add_zero, IntWalk.wrap64_in p (by omega), IntWalk.wrap64_in p (by omega)]
theorem bV_zero {p : Int} (h : InZ p 1048576) (s r : Int) : bV p 65536 0 s 0 r = p := by
  unfold bV
  rw [dZ_times h, Int.zero_mul, Int.zero_mul, wrap64_0]
  unfold InZ at h
  rw [show dZ 0 = 0 from rfl, Int.add_zero, Int.add_zero, IntWalk.wrap64_in p (by omega), IntWalk.wrap64_in p (by omega)]
theorem atU_plain {m m' p q : Int} (hm : InZ m 2147483648) (h : InZ p 1048576) : atU (plainL m m') p q = m + p := by
  unfold atU plainL
  simp only []
  rw [bG_zero, bU_zero h, Int.one_mul]
  unfold InZ at h hm
  rw [IntWalk.wrap64_in p (by omega), IntWalk.wrap64_in _ (by omega)]
theorem atV_plain {m m' p q : Int} (hm : InZ m' 2147483648) (h : InZ q 1048576) : atV (plainL m m') p q = m' + q := by
  unfold atV plainL
  simp only []
  rw [bG_zero, bV_zero h, Int.one_mul]
  unfold InZ at h hm
  rw [IntWalk.wrap64_in q (by omega), IntWalk.wrap64_in _ (by omega)]
theorem aside_one (p d m : Int) : asideZ p d m 1 = Int.fdiv (65536 * p) d - m := by unfold asideZ; rw [Int.fdiv_one]
theorem plain_ok {x y : Int} (hx : InZ (2 * x) 7) (hy : InZ (2 * y) 7) : lensE (plainL (65536 * x) (65536 * y)).list 1 1 = 0 := by
  unfold InZ at hx hy
  have h0 : lensC (plainL (65536 * x) (65536 * y)).list 1 1 = 0 := by
    rw [lensC_seven]
    unfold InZ plainL
    simp only []
    repeat' split
    all_goals omega
  rw [lensE_seven h0, if_pos]
  unfold Ln.seesAll Ln.sees plainL
  simp only [aside_one]
  rw [show Int.fdiv (65536 * -1) 2 = -32768 from by decide, show Int.fdiv (65536 * (2 * 1 - 1)) 2 = 32768 from by decide]
  unfold InZ
  omega
theorem plain_sees {x y X Y : Int} (hx : InZ (X - x) 4) (hy : InZ (Y - y) 4) : (plainL (65536 * x) (65536 * y)).sees X Y 1 := by
  unfold Ln.sees plainL
  simp only [aside_one, Int.fdiv_one]
  unfold InZ at *
  omega

/-- the law's world: its box, and what has grown -/
def PlW (w : World) (X Y D : Int) (wx : World) : Prop := Bx wx w.heap.size [.int .i64 X, .int .i64 Y, .int .i64 D] ∧ w.heap.size < wx.heap.size ∧ Below w.heap.size w wx
theorem PlW.below {w : World} {X Y D : Int} {wx wy : World} (h : PlW w X Y D wx) (hb : Below wx.heap.size wx wy) : PlW w X Y D wy := ⟨h.1.below hb, Nat.lt_of_lt_of_le h.2.1 hb.size, h.2.2.trans (hb.mono h.2.2.size)⟩

set_option maxRecDepth 100000 in
set_option maxHeartbeats 4000000 in
theorem LensPlain_walk (x y X Y D : Int) (w : World) (hx : -128 ≤ x ∧ x ≤ 127) (hy : -128 ≤ y ∧ y ≤ 127) (hX : isI64 X) (hY : isI64 Y) :
    Calls Try.prog 6 #[.int .i8 x, .int .i8 y, .agg #[.int .i64 X, .int .i64 Y, .int .i64 D]] w (Says w (.bool true)) := by
  have H0 := hide (fun w => Plain_any (65536 * x) (65536 * y) 1 w)
  have HN := hide (fun (A : Option Addr) (n c : Nat) (w : World) (h : IY w A n c (plainL (65536 * x) (65536 * y)).list) => New_any A n c _ 1 1 w h)
  have HI := hide (fun (w : World) (g : Nat) (h : Bx w g [.int .i64 (65536 * x), .int .i64 (65536 * y), .int .i64 1, .int .i64 0, .int .i64 0, .int .i64 0, .int .i64 0]) =>
    IY.own (xs := (plainL (65536 * x) (65536 * y)).list) h (by intro z hz; simp [plainL, Ln.list] at hz; unfold isI64; omega) 7 (Nat.le_refl 7) (by decide))
  have HR := hide (fun w => RRight_any X Y 1 w)
  have HA := hide (fun w => alive20_any w)
  have HT := hide (fun (g : Nat) (l : Ln) (w : World) (h : Bx w g l.cells) (hl : l.ok) => At_any g l X Y 1 w h hl hX hY)
  have HI1 := hide (fun w => In_any (2 * x) 7 w (by decide))
  have HI2 := hide (fun w => In_any (2 * y) 7 w (by decide))
  have HI3 := hide (fun a w => In_any a 4 w (by decide))
  have e1 : wrap64 (65536 * x) = 65536 * x := IntWalk.wrap64_in _ (by omega)
  have e2 : wrap64 (65536 * y) = 65536 * y := IntWalk.wrap64_in _ (by omega)
  have e3 : wrap64 (2 * x) = 2 * x := IntWalk.wrap64_in _ (by omega)
  have e4 : wrap64 (2 * y) = 2 * y := IntWalk.wrap64_in _ (by omega)
  have e5 : wrap64 x = x := IntWalk.wrap64_in _ (by omega)
  have e6 : wrap64 y = y := IntWalk.wrap64_in _ (by omega)
  have e7 : IntKind.i64.wrap x = x := IntWalk.i64_in _ (by omega)
  have e8 : IntKind.i64.wrap y = y := IntWalk.i64_in _ (by omega)
  have HK0 : Hid (PlW w X Y D (w.alloc (.cells #[.int .i64 X, .int .i64 Y, .int .i64 D] 32))) := ⟨Bx.at [.int .i64 X, .int .i64 Y, .int .i64 D] _ rfl, by simp, below_alloc w _⟩
  have HHX := hide hx
  have HHY := hide hy
  have HPO := hide (plain_ok (x := x) (y := y))
  clear hx hy hX hY
  go_enter Try.func6, Try.ntmps6
  go_wp2_with fail
  generalize w.alloc (.cells #[.int .i64 X, .int .i64 Y, .int .i64 D] 32) = w1 at HK0 ⊢
  refine (H0.out _).mono ?_
  rintro e w2 ⟨rfl, hw2⟩
  have hbx : Bx w2 w1.heap.size [.int .i64 (65536 * x), .int .i64 (65536 * y), .int .i64 1, .int .i64 0, .int .i64 0, .int .i64 0, .int .i64 0] := by rw [hw2]; exact Bx.at [.int .i64 (65536 * x), .int .i64 (65536 * y), .int .i64 1, .int .i64 0, .int .i64 0, .int .i64 0, .int .i64 0] _ rfl
  have HK1 := hide (HK0.out.below (show Below w1.heap.size w1 w2 by rw [hw2]; exact below_alloc w1 _))
  have d0 := (hbx.2 0 _ rfl).1
  have d2 := (hbx.2 2 _ rfl).1
  have d3 := (hbx.2 3 _ rfl).1
  have d6 := (hbx.2 6 _ rfl).1
  have HIY := hide (HI.out _ _ hbx)
  clear hbx hw2 HK0
  go_wp2_with fail
  refine (HN.out _ _ _ _ HIY.out).mono ?_
  rintro e w3 ⟨hb, hq⟩
  have HK3 := hide (HK1.out.below hb)
  clear HK1 hb d0 d2 d3 d6
  obtain ⟨b0, b1, b2⟩ := HK3.out.1.three
  by_cases k1 : InZ (2 * x) 7
  · by_cases k2 : InZ (2 * y) 7
    · have HJ1 := hide (HI1.out w3)
      rw [decide_eq_true k1] at HJ1
      have HJ2 := hide (HI2.out w3)
      rw [decide_eq_true k2] at HJ2
      rcases hq with ⟨_, l, g, hl, hlo, rfl, hx⟩ | ⟨h0, _⟩
      · obtain rfl : l = plainL (65536 * x) (65536 * y) := by
          obtain ⟨a, b, c, d, e, f, g⟩ := l
          simp [Ln.list, plainL] at hl
          obtain ⟨rfl, rfl, rfl, rfl, rfl, rfl, rfl⟩ := hl
          rfl
        have HX := hide hx
        have HLO := hide hlo
        have HK1' := hide k1
        have HK2' := hide k2
        clear hl hlo hx k1 k2
        go_wp2_with fail
        refine HJ1.out.mono ?_
        rintro e w4 ⟨rfl, rfl⟩
        go_wp2_with fail
        refine HJ2.out.mono ?_
        rintro e w4 ⟨rfl, rfl⟩
        by_cases kD : D = 1
        · subst kD
          obtain ⟨X', hX'⟩ : ∃ a, wrap64 (X - x) = a := ⟨_, rfl⟩
          obtain ⟨Y', hY'⟩ : ∃ a, wrap64 (Y - y) = a := ⟨_, rfl⟩
          have HX' := Lib.hid hX'
          have HY' := Lib.hid hY'
          have HJ3 := hide (HI3.out X' w3)
          have HJ4 := hide (HI3.out Y' w3)
          go_wp2_with fail
          refine HJ3.out.mono ?_
          rintro e w4 ⟨rfl, rfl⟩
          by_cases k3 : InZ X' 4
          · rw [decide_eq_true k3]
            go_wp2_with fail
            refine HJ4.out.mono ?_
            rintro e w4 ⟨rfl, rfl⟩
            by_cases k4 : InZ Y' 4
            · rw [decide_eq_true k4]
              go_wp2_with fail
              refine (HR.out _).mono ?_
              rintro e w4 ⟨rfl, rfl⟩
              by_cases kr : RightZ X Y 1
              · rw [decide_eq_true kr]
                have r1 := kr.1
                have r2 := kr.2.1
                have r5 := HHX.out
                have r6 := HHY.out
                unfold InZ at r1 r2
                have hs : (plainL (65536 * x) (65536 * y)).sees X Y 1 := plain_sees (by rw [← HX'.out, IntWalk.wrap64_in _ (by omega)] at k3; exact k3) (by rw [← HY'.out, IntWalk.wrap64_in _ (by omega)] at k4; exact k4)
                have HTT := hide (HT.out g _ w3 HX.out HLO.out)
                have q1 : 65536 * x + (65536 * X - 65536 * x) = 65536 * X := by omega
                have q2 : 65536 * y + (65536 * Y - 65536 * y) = 65536 * Y := by omega
                rw [if_pos ⟨kr, hs⟩] at HTT
                have z3 : X' = X - x := by rw [← HX'.out, IntWalk.wrap64_in _ (by omega)]
                have z4 : Y' = Y - y := by rw [← HY'.out, IntWalk.wrap64_in _ (by omega)]
                rw [z3] at k3
                rw [z4] at k4
                rw [show (plainL (65536 * x) (65536 * y)).f = 1 from rfl, aside_one, aside_one, Int.fdiv_one, Int.fdiv_one, show (plainL (65536 * x) (65536 * y)).cx = 65536 * x from rfl, show (plainL (65536 * x) (65536 * y)).cy = 65536 * y from rfl,
                  atU_plain (by unfold InZ; omega) (by unfold InZ at k3 ⊢; omega), atV_plain (by unfold InZ; omega) (by unfold InZ at k4 ⊢; omega), q1, q2] at HTT
                have f1 : wrap64 (65536 * X) = 65536 * X := IntWalk.wrap64_in _ (by omega)
                have f2 : wrap64 (65536 * Y) = 65536 * Y := IntWalk.wrap64_in _ (by omega)
                clear k3 k4 kr r1 r2 r5 r6 hs q1 q2 z3 z4
                go_wp2_with fail
                refine HTT.out.mono ?_
                rintro e w5 ⟨rfl, hb⟩
                have HK5 := hide (HK3.out.below hb)
                clear b0 b1 b2
                obtain ⟨b0, b1, b2⟩ := HK5.out.1.three
                clear hb
                go_wp2_with fail
                refine (HA.out _).mono ?_
                rintro e w9 ⟨rfl, hb⟩
                have HB9 := hide (HK5.out.below hb).2.2
                clear hb
                go_wp2_with fail
                go_ret
                exact ⟨rfl, HB9.out⟩
              · rw [decide_eq_false kr]
                clear kr
                go_wp2_with fail
                refine (HA.out _).mono ?_
                rintro e w9 ⟨rfl, hb⟩
                have HB9 := hide (HK3.out.below hb).2.2
                clear hb
                go_wp2_with fail
                go_ret
                exact ⟨rfl, HB9.out⟩
            · rw [decide_eq_false k4]
              clear k4
              go_wp2_with fail
              refine (HA.out _).mono ?_
              rintro e w9 ⟨rfl, hb⟩
              have HB9 := hide (HK3.out.below hb).2.2
              clear hb
              go_wp2_with fail
              go_ret
              exact ⟨rfl, HB9.out⟩
          · rw [decide_eq_false k3]
            clear k3
            go_wp2_with fail
            refine (HA.out _).mono ?_
            rintro e w9 ⟨rfl, hb⟩
            have HB9 := hide (HK3.out.below hb).2.2
            clear hb
            go_wp2_with fail
            go_ret
            exact ⟨rfl, HB9.out⟩
        · have kD' : (D != 1) = true := by simpa using kD
          go_wp2_with fail
          refine (HA.out _).mono ?_
          rintro e w9 ⟨rfl, hb⟩
          have HB9 := hide (HK3.out.below hb).2.2
          clear hb
          go_wp2_with fail
          go_ret
          exact ⟨rfl, HB9.out⟩
      · exact absurd (HPO.out k1 k2) h0
    · have HJ1 := hide (HI1.out w3)
      rw [decide_eq_true k1] at HJ1
      have HJ2 := hide (HI2.out w3)
      rw [decide_eq_false k2] at HJ2
      clear k1 k2
      rcases hq with ⟨_, l, g, hl, hlo, rfl, hx⟩ | ⟨h0, rfl⟩
      · clear hl hlo hx
        go_wp2_with fail
        refine HJ1.out.mono ?_
        rintro e w4 ⟨rfl, rfl⟩
        go_wp2_with fail
        refine HJ2.out.mono ?_
        rintro e w4 ⟨rfl, rfl⟩
        go_wp2_with fail
        refine (HA.out _).mono ?_
        rintro e w9 ⟨rfl, hb⟩
        have HB9 := hide (HK3.out.below hb).2.2
        clear hb
        go_wp2_with fail
        go_ret
        exact ⟨rfl, HB9.out⟩
      · obtain ⟨v, hv⟩ : ∃ v, lensE (plainL (65536 * x) (65536 * y)).list 1 1 = v := ⟨_, rfl⟩
        rw [hv] at h0 ⊢
        have h0' : (v != 0) = true := by simpa using h0
        clear hv
        go_wp2_with fail
        refine HJ1.out.mono ?_
        rintro e w4 ⟨rfl, rfl⟩
        go_wp2_with fail
        refine HJ2.out.mono ?_
        rintro e w4 ⟨rfl, rfl⟩
        go_wp2_with fail
        refine (HA.out _).mono ?_
        rintro e w9 ⟨rfl, hb⟩
        have HB9 := hide (HK3.out.below hb).2.2
        clear hb
        go_wp2_with fail
        go_ret
        exact ⟨rfl, HB9.out⟩
  · have HJ1 := hide (HI1.out w3)
    rw [decide_eq_false k1] at HJ1
    clear k1
    rcases hq with ⟨_, l, g, hl, hlo, rfl, hx⟩ | ⟨h0, rfl⟩
    · clear hl hlo hx
      go_wp2_with fail
      refine HJ1.out.mono ?_
      rintro e w4 ⟨rfl, rfl⟩
      go_wp2_with fail
      refine (HA.out _).mono ?_
      rintro e w9 ⟨rfl, hb⟩
      have HB9 := hide (HK3.out.below hb).2.2
      clear hb
      go_wp2_with fail
      go_ret
      exact ⟨rfl, HB9.out⟩
    · obtain ⟨v, hv⟩ : ∃ v, lensE (plainL (65536 * x) (65536 * y)).list 1 1 = v := ⟨_, rfl⟩
      rw [hv] at h0 ⊢
      have h0' : (v != 0) = true := by simpa using h0
      clear hv
      go_wp2_with fail
      refine HJ1.out.mono ?_
      rintro e w4 ⟨rfl, rfl⟩
      go_wp2_with fail
      refine (HA.out _).mono ?_
      rintro e w9 ⟨rfl, hb⟩
      have HB9 := hide (HK3.out.below hb).2.2
      clear hb
      go_wp2_with fail
      go_ret
      exact ⟨rfl, HB9.out⟩
end Go.Proofs.Ytgcnmffbhjlolaa
