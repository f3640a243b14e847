/-
Contracts of slants: the reference's look at them, and a pixel. No statement is proved here.
-/
import Derived.Test.YtgcnmffbhjlolabDoorShr7
namespace Go.Proofs.YtgcnmffbhjlolabDoor
open Go.RowKit

set_option maxHeartbeats 2000000 in
theorem RSCheck_any (A : Option Addr) (n c : Nat) (xs : List Int) (w : World) (h : IY w A n c xs) :
    Calls Tryd.prog 8 #[.slice A n c] w fun e w' => e = .returned (.int .i64 (slC xs)) ∧ w = w' := by
  by_cases hn : n = 4
  · subst hn
    have hE : slC xs = if okL xs then 0 else 11 := by rw [slC, if_neg (by rw [h.1]; decide)]
    obtain ⟨v, hv⟩ : ∃ v, slC xs = v := ⟨_, rfl⟩
    rw [hv] at hE ⊢
    have HE := Lib.hid hE
    have HB := hide h
    have HI := hide (fun x m w (hm : 0 ≤ m ∧ m ≤ 9223372036854775807) => In_any x m w hm)
    clear h hE hv
    go_enter Tryd.func8, Tryd.ntmps8
    go_wp2_with fail
    go_loopw [3] (fun i wr => ∃ k : Nat, k ≤ 4 ∧ i = .int .i64 k ∧ (∀ j, j < k → InZ (xs.getD j 0) (([262144, 262144, 32768, 32768] : List Int).getD j 0)) ∧ w = wr) (fun i _ => 4 - (intOf i).toNat)
    case atStart => exact ⟨0, Nat.zero_le _, rfl, fun j hj => absurd hj (by omega), rfl⟩
    case round =>
      obtain ⟨k, hk, rfl, hA, rfl⟩ := hrel
      have HA := hide hA
      clear hA
      by_cases hlt : k < 4
      · obtain ⟨p, o, rfl, _, hc⟩ := HB.out.2.2.2.2 (by omega)
        have c1 := hc k hlt
        clear hc
        have i0 : (0 : Int) ≤ (k : Int) := by omega
        have i1 : (k : Int) < (4 : Int) := by omega
        obtain ⟨u, hu⟩ : ∃ u, xs.getD k 0 = u := ⟨_, rfl⟩
        have HU := Lib.hid hu
        rw [hu] at c1
        clear hu
        by_cases k2 : (1 : Int) < (k : Int)
        · have ht : ([262144, 262144, 32768, 32768] : List Int).getD k 0 = 32768 := by
            rcases (show k = 2 ∨ k = 3 by omega) with rfl | rfl <;> rfl
          by_cases a1 : InZ u 32768
          · have HS : Hid (∀ j, j < k + 1 → InZ (xs.getD j 0) (([262144, 262144, 32768, 32768] : List Int).getD j 0)) := fun j hj => by
              rcases Nat.lt_or_ge j k with q | q
              · exact HA.out j q
              · obtain rfl : j = k := by omega
                rw [HU.out, ht]; exact a1
            have HW := hide (HI.out u 32768 w (by decide))
            rw [decide_eq_true a1] at HW
            clear a1 ht
            go_wp2_with fail
            refine HW.out.mono ?_
            rintro e w1 ⟨rfl, rfl⟩
            go_wp2_with fail
            go_roundw
            case rel => exact ⟨k + 1, by omega, by go_num, HS.out, trivial⟩
            case measure => simp [intOf]; omega
          · obtain rfl : v = 11 := by
              rw [HE.out, if_neg]
              intro hall
              have := okL_iff.1 hall k hlt
              rw [HU.out, ht] at this
              exact a1 this
            have HW := hide (HI.out u 32768 w (by decide))
            rw [decide_eq_false a1] at HW
            clear a1 ht
            go_wp2_with fail
            refine HW.out.mono ?_
            rintro e w1 ⟨rfl, rfl⟩
            go_wp2_with fail
            go_ret
            exact ⟨rfl, rfl⟩
        · have ht : ([262144, 262144, 32768, 32768] : List Int).getD k 0 = 262144 := by
            rcases (show k = 0 ∨ k = 1 by omega) with rfl | rfl <;> rfl
          by_cases a1 : InZ u 262144
          · have HS : Hid (∀ j, j < k + 1 → InZ (xs.getD j 0) (([262144, 262144, 32768, 32768] : List Int).getD j 0)) := fun j hj => by
              rcases Nat.lt_or_ge j k with q | q
              · exact HA.out j q
              · obtain rfl : j = k := by omega
                rw [HU.out, ht]; exact a1
            have HW := hide (HI.out u 262144 w (by decide))
            rw [decide_eq_true a1] at HW
            clear a1 ht
            go_wp2_with fail
            refine HW.out.mono ?_
            rintro e w1 ⟨rfl, rfl⟩
            go_wp2_with fail
            go_roundw
            case rel => exact ⟨k + 1, by omega, by go_num, HS.out, trivial⟩
            case measure => simp [intOf]; omega
          · obtain rfl : v = 11 := by
              rw [HE.out, if_neg]
              intro hall
              have := okL_iff.1 hall k hlt
              rw [HU.out, ht] at this
              exact a1 this
            have HW := hide (HI.out u 262144 w (by decide))
            rw [decide_eq_false a1] at HW
            clear a1 ht
            go_wp2_with fail
            refine HW.out.mono ?_
            rintro e w1 ⟨rfl, rfl⟩
            go_wp2_with fail
            go_ret
            exact ⟨rfl, rfl⟩
      · obtain rfl : k = 4 := by omega
        obtain rfl : v = 0 := by rw [HE.out, if_pos (okL_iff.2 HA.out)]
        go_wp2_with fail
        go_ret
        exact ⟨rfl, rfl⟩
  · have e : slC xs = 12 := by rw [slC, if_pos (by rw [h.1]; exact hn)]
    rw [e]
    have i1 : ((n : Int) == 4) = false := by simp; omega
    have i2 : ((n : Int) != 4) = true := by simp; omega
    clear h e hn
    go_enter Tryd.func8, Tryd.ntmps8
    go_wp2_with fail
    go_ret
    exact ⟨rfl, rfl⟩

set_option maxRecDepth 100000 in
set_option maxHeartbeats 4000000 in
theorem Pixel_any (l : Sl) (b o c : Nat) (x y : Int) (w : World) (h : IY w (some ⟨b, o, none⟩) 4 c l.list) (hl : l.ok) (hx : -2097168 ≤ x ∧ x ≤ 2097168) (hy : -2097168 ≤ y ∧ y ≤ 2097168) :
    Calls Tryd.prog 14 #[.slice (some ⟨b, o, none⟩) 4 c, .int .i64 x, .int .i64 y] w (Says w (.tuple #[.int .i64 (wholeX l x y), .int .i64 (wholeY l x y)])) := by
  obtain ⟨b', o', e', _, hcell⟩ := h.2.2.2.2 (by omega)
  cases e'
  have c0 : w.cell? ⟨b, o, none⟩ = some (.int .i64 l.a) := hcell 0 (by omega)
  have c1 : w.cell? ⟨b, o + 1, none⟩ = some (.int .i64 l.b) := hcell 1 (by omega)
  have c2 : w.cell? ⟨b, o + 2, none⟩ = some (.int .i64 l.cx) := hcell 2 (by omega)
  have c3 : w.cell? ⟨b, o + 3, none⟩ = some (.int .i64 l.cy) := hcell 3 (by omega)
  have z1 := hl.2.2.1
  have z2 := hl.2.2.2
  unfold InZ at z1 z2
  have hX : wholeX l x y = onX1 l.a (x - l.cx) (y - l.cy) + rZ l.a (onY l.a l.b (x - l.cx) (y - l.cy)) + l.cx := rfl
  have hY : wholeY l x y = onY l.a l.b (x - l.cx) (y - l.cy) + l.cy := rfl
  have hO : onY l.a l.b (x - l.cx) (y - l.cy) = (y - l.cy) + rZ l.b (onX1 l.a (x - l.cx) (y - l.cy)) := rfl
  have hO1 : onX1 l.a (x - l.cx) (y - l.cy) = (x - l.cx) + rZ l.a (y - l.cy) := rfl
  obtain ⟨x0, hx0⟩ : ∃ v, x - l.cx = v := ⟨_, rfl⟩
  obtain ⟨y0, hy0⟩ : ∃ v, y - l.cy = v := ⟨_, rfl⟩
  rw [hx0, hy0] at hX hY hO hO1
  have b1 := rZ_bound (z := y0) 2129936 hl.1 (by omega)
  have m1 := mul_bound (z := y0) 2129936 hl.1 (by omega)
  obtain ⟨x1, hx1⟩ : ∃ v, onX1 l.a x0 y0 = v := ⟨_, rfl⟩
  rw [hx1] at hX hO hO1
  have b2 := rZ_bound (a := l.b) (z := x1) 10649681 hl.2.1 (by omega)
  have m2 := mul_bound (a := l.b) (z := x1) 10649681 hl.2.1 (by omega)
  obtain ⟨y1, hy1⟩ : ∃ v, onY l.a l.b x0 y0 = v := ⟨_, rfl⟩
  rw [hy1] at hX hY hO
  have b3 := rZ_bound (a := l.a) (z := y1) 44728661 hl.1 (by omega)
  have m3 := mul_bound (a := l.a) (z := y1) 44728661 hl.1 (by omega)
  have e1 : wrap64 (x - l.cx) = x0 := by rw [hx0]; exact IntWalk.wrap64_in _ (by omega)
  have e2 : wrap64 (y - l.cy) = y0 := by rw [hy0]; exact IntWalk.wrap64_in _ (by omega)
  have e3 : wrap64 (l.a * y0) = l.a * y0 := IntWalk.wrap64_in _ (by omega)
  have e4 : wrap64 (l.b * x1) = l.b * x1 := IntWalk.wrap64_in _ (by omega)
  have e5 : wrap64 (l.a * y1) = l.a * y1 := IntWalk.wrap64_in _ (by omega)
  have HN1 := hide (fun w => Nearest_any (l.a * y0) 65536 w (by omega) (by decide))
  have HN2 := hide (fun w => Nearest_any (l.b * x1) 65536 w (by omega) (by decide))
  have HN3 := hide (fun w => Nearest_any (l.a * y1) 65536 w (by omega) (by decide))
  have G1 := Lib.hid (show nearZ (l.a * y0) 65536 = rZ l.a y0 from rfl)
  have G2 := Lib.hid (show nearZ (l.b * x1) 65536 = rZ l.b x1 from rfl)
  have G3 := Lib.hid (show nearZ (l.a * y1) 65536 = rZ l.a y1 from rfl)
  rw [G1.out] at HN1
  rw [G2.out] at HN2
  rw [G3.out] at HN3
  obtain ⟨r1, hr1⟩ : ∃ v, rZ l.a y0 = v := ⟨_, rfl⟩
  obtain ⟨r2, hr2⟩ : ∃ v, rZ l.b x1 = v := ⟨_, rfl⟩
  obtain ⟨r3, hr3⟩ : ∃ v, rZ l.a y1 = v := ⟨_, rfl⟩
  rw [hr1] at HN1 b1 hO1
  rw [hr2] at HN2 b2 hO
  rw [hr3] at HN3 b3 hX
  have f1 : wrap64 (x0 + r1) = x1 := by rw [hO1]; exact IntWalk.wrap64_in _ (by omega)
  have f2 : wrap64 (y0 + r2) = y1 := by rw [hO]; exact IntWalk.wrap64_in _ (by omega)
  obtain ⟨x2, hx2⟩ : ∃ v, x1 + r3 = v := ⟨_, rfl⟩
  rw [hx2] at hX
  have f3 : wrap64 (x1 + r3) = x2 := by rw [hx2]; exact IntWalk.wrap64_in _ (by omega)
  have HF4 := Lib.hid (show wrap64 (x2 + l.cx) = wholeX l x y by rw [hX]; exact IntWalk.wrap64_in _ (by omega))
  have HF5 := Lib.hid (show wrap64 (y1 + l.cy) = wholeY l x y by rw [hY]; exact IntWalk.wrap64_in _ (by omega))
  obtain ⟨U, hU⟩ : ∃ v, wholeX l x y = v := ⟨_, rfl⟩
  obtain ⟨V, hV⟩ : ∃ v, wholeY l x y = v := ⟨_, rfl⟩
  rw [hU] at HF4 ⊢
  rw [hV] at HF5 ⊢
  have HB := hide (Below.refl w.heap.size w)
  clear hcell h hl hx hy z1 z2 hX hY hO hO1 hx0 hy0 b1 m1 hx1 b2 m2 hy1 b3 m3 hr1 hr2 hr3 hx2 hU hV G1 G2 G3
  go_enter Tryd.func14, Tryd.ntmps14
  go_wp2_with fail
  refine (HN1.out _).mono ?_
  rintro e w1 ⟨rfl, rfl⟩
  go_wp2_with fail
  refine (HN2.out _).mono ?_
  rintro e w1 ⟨rfl, rfl⟩
  go_wp2_with fail
  refine (HN3.out _).mono ?_
  rintro e w1 ⟨rfl, rfl⟩
  go_wp2_with fail
  refine wp_region_quiet_lit (by kernel_rfl) (by kernel_rfl) ?_
  iterate 12 go_big_quiet_step (fail)
  refine wpQuiet_nil ?_
  intro _ hw'
  obtain ⟨nq, hw''⟩ := hw'
  subst hw''
  have HJ := hide (bdrewN HB.out nq)
  generalize w.drewN nq = wE at HJ ⊢
  try rw [HF4.out]
  try rw [HF5.out]
  go_wp2_with fail
  refine bodyPost_ret (v := .tuple #[.int .i64 U, .int .i64 V]) (by simp [results, Tryd.results14, go_sem]) rfl ⟨rfl, HJ.out⟩
end Go.Proofs.YtgcnmffbhjlolabDoor
