/-
Contracts of slants: the bounds; the reference's answers. No statement is proved here.
-/
import Derived.Test.YtgcnmffbhjlolabDoorShr5
import Derived.Test.YtgcnmffbhjlolabDoorDown
namespace Go.Proofs.YtgcnmffbhjlolabDoor
open Go.RowKit

def absZ (a : Int) : Int := max a (-a)
def upZ (a b : Int) : Int := -Int.fdiv (-a) b
theorem abs_in {a : Int} (h : slope a) : 0 ≤ absZ a ∧ absZ a ≤ 262144 := by unfold slope InZ at h; unfold absZ; omega
theorem SSize_any (a : Int) (w : World) (h : slope a) : Calls Tryd.prog 23 #[.int .i64 a] w fun e w' => e = .returned (.int .i64 (absZ a)) ∧ w = w' := by
  unfold slope InZ at h
  have e1 : wrap64 (-a) = -a := IntWalk.wrap64_in _ (by omega)
  obtain ⟨A, hA⟩ : ∃ A, absZ a = A := ⟨_, rfl⟩
  have m1 : max a (-a) = A := hA
  have m2 : (if a < -a then -a else a) = A := by rw [if_max]; exact hA
  rw [hA]
  clear h hA
  go_enter Tryd.func23, Tryd.ntmps23
  go_wp2_with fail
  refine bodyPost_ret (v := .int .i64 A) (by simp [results, Tryd.results23, go_sem]) rfl ⟨rfl, rfl⟩
theorem Plain_any (a : Int) (w : World) (h : slope a) : Calls Tryd.prog 25 #[.int .i64 a] w fun e w' => e = .returned (.int .i64 (absZ a)) ∧ w = w' := by
  unfold slope InZ at h
  have e1 : wrap64 (-a) = -a := IntWalk.wrap64_in _ (by omega)
  obtain ⟨A, hA⟩ : ∃ A, absZ a = A := ⟨_, rfl⟩
  have m1 : max a (-a) = A := hA
  have m2 : (if a < -a then -a else a) = A := by rw [if_max]; exact hA
  rw [hA]
  clear h hA
  go_enter Tryd.func25, Tryd.ntmps25
  go_wp2_with fail
  refine bodyPost_ret (v := .int .i64 A) (by simp [results, Tryd.results25, go_sem]) rfl ⟨rfl, rfl⟩
theorem Up_any (a b : Int) (w : World) (ha : 0 ≤ a ∧ a ≤ 1099511627776) (hb : 1 ≤ b ∧ b ≤ 131072) : Calls Tryd.prog 24 #[.int .i64 a, .int .i64 b] w fun e w' => e = .returned (.int .i64 (upZ a b)) ∧ w = w' := by
  have e1 : wrap64 (-a) = -a := IntWalk.wrap64_in _ (by omega)
  have H := hide (QFloor_any (-a) b w (by omega) (by omega) (by omega) (by omega))
  have hv := fdiv_bound (p := -a) (d := b) (B := 1099511627776) hb.1 (by omega)
  have HV := Lib.hid (show -Int.fdiv (-a) b = upZ a b from rfl)
  obtain ⟨v, hv'⟩ : ∃ v, Int.fdiv (-a) b = v := ⟨_, rfl⟩
  rw [hv'] at H hv HV
  have e2 : wrap64 (-v) = -v := IntWalk.wrap64_in _ (by omega)
  clear ha hb hv hv'
  go_enter Tryd.func24, Tryd.ntmps24
  go_wp2_with fail
  refine H.out.mono ?_
  rintro e w1 ⟨rfl, rfl⟩
  go_wp2_with fail
  go_ret
  exact ⟨congrArg (fun v => Ending.returned (.int .i64 v)) (e2.trans HV.out), rfl⟩
def bdX (l : Sl) : Int := 65536 + upZ (absZ l.a * (65536 + absZ l.b)) 131072
def bdY (l : Sl) : Int := 32768 + upZ (absZ l.b) 2
theorem Bounds_nil (w : World) : Calls Tryd.prog 10 #[.pointer none] w (Says w (.tuple #[.int .i64 0, .int .i64 0])) := by
  have HB := hide (Below.refl w.heap.size w)
  go_enter Tryd.func10, Tryd.ntmps10
  go_wp2_with fail
  refine bodyPost_ret (v := .tuple #[.int .i64 0, .int .i64 0]) (by simp [results, Tryd.results10, go_sem]) rfl ⟨rfl, HB.out⟩
theorem prod_in {A B : Int} (hA : 0 ≤ A ∧ A ≤ 262144) (hB : 0 ≤ B ∧ B ≤ 262144) : 0 ≤ A * (65536 + B) ∧ A * (65536 + B) ≤ 85899345920 :=
  ⟨Int.mul_nonneg hA.1 (by omega), by
    have : A * (65536 + B) ≤ 262144 * 327680 := Int.mul_le_mul hA.2 (by omega) (by omega) (by omega)
    omega⟩
theorem up_in {a b : Int} (ha : 0 ≤ a ∧ a ≤ 85899345920) (hb : 1 ≤ b) : -85899345920 ≤ upZ a b ∧ upZ a b ≤ 85899345920 := by
  have := fdiv_bound (p := -a) (d := b) (B := 85899345920) hb (by omega)
  unfold upZ; omega
set_option maxRecDepth 100000 in
set_option maxHeartbeats 2000000 in
theorem Bounds_any (g : Nat) (l : Sl) (w : World) (h : Bx w g l.cells) (hl : l.ok) : Calls Tryd.prog 10 #[.pointer (some ⟨g, 0, none⟩)] w (Says w (.tuple #[.int .i64 (bdX l), .int .i64 (bdY l)])) := by
  have hA := abs_in hl.1
  have hB := abs_in hl.2.1
  have HS1 := hide (fun w n => Calls.quiet_of_same (w := w) (n := n) ((SSize_any l.a _ hl.1).mono fun _ _ k => ⟨k.1, k.2.symm⟩))
  have HS2 := hide (fun w n => Calls.quiet_of_same (w := w) (n := n) ((SSize_any l.b _ hl.2.1).mono fun _ _ k => ⟨k.1, k.2.symm⟩))
  have HX := Lib.hid (show 65536 + upZ (absZ l.a * (65536 + absZ l.b)) 131072 = bdX l from rfl)
  have HY := Lib.hid (show 32768 + upZ (absZ l.b) 2 = bdY l from rfl)
  obtain ⟨A, hA'⟩ : ∃ A, absZ l.a = A := ⟨_, rfl⟩
  obtain ⟨B, hB'⟩ : ∃ A, absZ l.b = A := ⟨_, rfl⟩
  rw [hA'] at HS1 HX hA
  rw [hB'] at HS2 HX HY hB
  have hP := prod_in hA hB
  have e1 : wrap64 (65536 + B) = 65536 + B := IntWalk.wrap64_in _ (by omega)
  have e2 : wrap64 (A * (65536 + B)) = A * (65536 + B) := IntWalk.wrap64_in _ (by omega)
  have HU1 := hide (fun w => Up_any (A * (65536 + B)) 131072 w (by omega) (by decide))
  have HU2 := hide (fun w => Up_any B 2 w (by omega) (by decide))
  have b1 := up_in (b := 131072) hP (by decide)
  have b2 := up_in (a := B) (b := 2) (by omega) (by decide)
  obtain ⟨u, hu⟩ : ∃ u, upZ (A * (65536 + B)) 131072 = u := ⟨_, rfl⟩
  obtain ⟨v, hv⟩ : ∃ u, upZ B 2 = u := ⟨_, rfl⟩
  rw [hu] at HU1 HX b1
  rw [hv] at HU2 HY b2
  have e3 : wrap64 (65536 + u) = bdX l := by rw [← HX.out]; exact IntWalk.wrap64_in _ (by omega)
  have e4 : wrap64 (32768 + v) = bdY l := by rw [← HY.out]; exact IntWalk.wrap64_in _ (by omega)
  have HE3 := Lib.hid e3
  have HE4 := Lib.hid e4
  have c0 := (h.2 0 _ rfl).1
  have c1 := (h.2 1 _ rfl).1
  have HB := hide (Below.refl w.heap.size w)
  clear h hl HX HY hA hB hA' hB' hP b1 b2 hu hv e3 e4
  go_enter Tryd.func10, Tryd.ntmps10
  go_wp2_with fail
  refine wp_region_quiet_lit (by kernel_rfl) (by kernel_rfl) ?_
  iterate 12 go_big_quiet_step ((first | (go_at_call_of 23 (Value.int .i64 l.a); exact HS1.out _ _) | (go_at_call 23; exact HS2.out _ _)))
  refine wpQuiet_nil ?_
  intro _ hw'
  obtain ⟨nq, hw''⟩ := hw'
  subst hw''
  have HJ := hide (bdrewN HB.out nq)
  clear c0 c1
  generalize w.drewN nq = wE at HJ ⊢
  go_wp2_with fail
  refine (HU1.out _).mono ?_
  rintro e w1 ⟨rfl, rfl⟩
  go_wp2_with fail
  refine (HU2.out _).mono ?_
  rintro e w1 ⟨rfl, rfl⟩
  go_wp2_with fail
  refine bodyPost_ret (v := .tuple #[.int .i64 (wrap64 (65536 + u)), .int .i64 (wrap64 (32768 + v))]) (by simp [results, Tryd.results10, go_sem]) rfl ⟨by rw [HE3.out, HE4.out], HJ.out⟩
theorem up_tdiv (m : Int) (hm : 0 ≤ m) : (m + 131071).tdiv 131072 = upZ m 131072 := by
  have h := floor_left (a := -m) (b := 131072) (by decide)
  rw [Int.tdiv_eq_ediv_of_nonneg (by omega)]
  unfold upZ
  omega
theorem up_half (m : Int) (hm : 0 ≤ m) : (m + 1).tdiv 2 = upZ m 2 := by
  have h := floor_left (a := -m) (b := 2) (by decide)
  rw [Int.tdiv_eq_ediv_of_nonneg (by omega)]
  unfold upZ
  omega
set_option maxRecDepth 100000 in
set_option maxHeartbeats 2000000 in
theorem RBounds_any (l : Sl) (b o c : Nat) (w : World) (h : IY w (some ⟨b, o, none⟩) 4 c l.list) (hl : l.ok) : Calls Tryd.prog 11 #[.slice (some ⟨b, o, none⟩) 4 c] w (Says w (.tuple #[.int .i64 (bdX l), .int .i64 (bdY l)])) := by
  obtain ⟨b', o', e', _, hcell⟩ := h.2.2.2.2 (by omega)
  cases e'
  have c0 : w.cell? ⟨b, o, none⟩ = some (.int .i64 l.a) := hcell 0 (by omega)
  have c1 : w.cell? ⟨b, o + 1, none⟩ = some (.int .i64 l.b) := hcell 1 (by omega)
  have hA := abs_in hl.1
  have hB := abs_in hl.2.1
  have HS1 := hide (fun w => Plain_any l.a w hl.1)
  have HS2 := hide (fun w => Plain_any l.b w hl.2.1)
  have HX : bdX l = 65536 + upZ (absZ l.a * (65536 + absZ l.b)) 131072 := rfl
  have HY : bdY l = 32768 + upZ (absZ l.b) 2 := rfl
  obtain ⟨A, hA'⟩ : ∃ A, absZ l.a = A := ⟨_, rfl⟩
  obtain ⟨B, hB'⟩ : ∃ A, absZ l.b = A := ⟨_, rfl⟩
  rw [hA'] at HS1 HX hA
  rw [hB'] at HS2 HX HY hB
  have hP := prod_in hA hB
  have b1 := up_in (b := 131072) hP (by decide)
  have b2 := up_in (a := B) (b := 2) (by omega) (by decide)
  obtain ⟨P, hp⟩ : ∃ P, 65536 + B = P := ⟨_, rfl⟩
  rw [hp] at hP HX b1
  obtain ⟨M, hm⟩ : ∃ M, A * P = M := ⟨_, rfl⟩
  rw [hm] at hP HX b1
  have t1 := up_tdiv M hP.1
  have t2 := up_half B hB.1
  have e1 : wrap64 (65536 + B) = P := by rw [hp]; exact IntWalk.wrap64_in _ (by omega)
  have e2 : wrap64 (A * P) = M := by rw [hm]; exact IntWalk.wrap64_in _ (by omega)
  obtain ⟨N, hN⟩ : ∃ N, M + 131071 = N := ⟨_, rfl⟩
  obtain ⟨Q, hQ⟩ : ∃ N, B + 1 = N := ⟨_, rfl⟩
  have e3 : wrap64 (M + 131071) = N := by rw [hN]; exact IntWalk.wrap64_in _ (by omega)
  have e4 : wrap64 (B + 1) = Q := by rw [hQ]; exact IntWalk.wrap64_in _ (by omega)
  rw [hN] at t1
  rw [hQ] at t2
  obtain ⟨u, hu⟩ : ∃ u, upZ M 131072 = u := ⟨_, rfl⟩
  obtain ⟨v, hv⟩ : ∃ u, upZ B 2 = u := ⟨_, rfl⟩
  rw [hu] at t1 HX b1
  rw [hv] at t2 HY b2
  have e5 : wrap64 (N.tdiv 131072) = u := by rw [t1]; exact IntWalk.wrap64_in _ (by omega)
  have e6 : wrap64 (Q.tdiv 2) = v := by rw [t2]; exact IntWalk.wrap64_in _ (by omega)
  have e5' : IntKind.i64.wrap (N.tdiv 131072) = u := by rw [IntWalk.i64_left]; exact e5
  have e6' : IntKind.i64.wrap (Q.tdiv 2) = v := by rw [IntWalk.i64_left]; exact e6
  have HE3 := Lib.hid (show wrap64 (65536 + u) = bdX l by rw [HX]; exact IntWalk.wrap64_in _ (by omega))
  have HE4 := Lib.hid (show wrap64 (32768 + v) = bdY l by rw [HY]; exact IntWalk.wrap64_in _ (by omega))
  have HB := hide (Below.refl w.heap.size w)
  clear hcell h hl HX HY hA hB hA' hB' hP b1 b2 hu hv t1 t2 hN hQ hp hm
  go_enter Tryd.func11, Tryd.ntmps11
  go_wp2_with fail
  refine (HS1.out _).mono ?_
  rintro e w1 ⟨rfl, rfl⟩
  go_wp2_with fail
  refine (HS2.out _).mono ?_
  rintro e w1 ⟨rfl, rfl⟩
  go_wp2_with fail
  refine bodyPost_ret (v := .tuple #[.int .i64 (wrap64 (65536 + u)), .int .i64 (wrap64 (32768 + v))]) (by simp [results, Tryd.results11, go_sem]) rfl ⟨by rw [HE3.out, HE4.out], HB.out⟩
theorem Nearest_any (p d : Int) (w : World) (hp : -288230376151711744 ≤ p ∧ p ≤ 288230376151711744) (hd : 1 ≤ d ∧ d ≤ 65536) : Calls Tryd.prog 15 #[.int .i64 p, .int .i64 d] w fun e w' => e = .returned (.int .i64 (nearZ p d)) ∧ w = w' := by
  have H := hide (Down_any (p + p + d) (d + d) w (by unfold isI64; omega) (by unfold isI64; omega) (by omega) (by omega))
  have HN := Lib.hid (show Int.fdiv (p + p + d) (d + d) = nearZ p d from rfl)
  rw [HN.out] at H
  have e1 : wrap64 (2 * p) = p + p := by rw [show 2 * p = p + p by omega]; exact IntWalk.wrap64_in _ (by omega)
  have e2 : wrap64 (p + p + d) = p + p + d := IntWalk.wrap64_in _ (by omega)
  have e3 : wrap64 (2 * d) = d + d := by rw [show 2 * d = d + d by omega]; exact IntWalk.wrap64_in _ (by omega)
  clear hp hd
  go_enter Tryd.func15, Tryd.ntmps15
  go_wp2_with fail
  refine H.out.mono ?_
  rintro e w1 ⟨rfl, rfl⟩
  go_wp2_with fail
  go_ret
  exact ⟨rfl, rfl⟩
end Go.Proofs.YtgcnmffbhjlolabDoor
