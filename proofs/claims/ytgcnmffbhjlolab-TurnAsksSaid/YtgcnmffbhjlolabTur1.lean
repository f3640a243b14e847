/-
Contracts of turns: the quarters, and from where a place comes by a turn. No statement is proved here.
-/
import Derived.Test.YtgcnmffbhjlolabTur0
import Derived.Test.YtgcnmffbhjlolabInts
import Derived.BigQuiet
import Derived.Lib.QuietBelow
import Derived.Deep.QuietTactic
namespace Go.Proofs.Ytgcnmffbhjlolab
open Go.RowKit

/-- from where a place comes by so many quarters, and seen in a mirror: the column, the row -/
def turnU (q W x y : Int) : Int := if q = 0 then x else if q = 1 then y else if q = 2 then W - x else if q = 3 then W - y else if q = 4 then W - x else if q = 5 then W - y else if q = 6 then W - (W - x) else W - (W - y)
def turnV (q H x y : Int) : Int := if q = 0 then y else if q = 1 then H - x else if q = 2 then H - y else if q = 3 then x else if q = 4 then y else if q = 5 then H - x else if q = 6 then H - y else x
def small (x : Int) : Prop := -4194304 ≤ x ∧ x ≤ 4194304

set_option maxHeartbeats 1000000 in
theorem corner_none (W H x y : Int) (w : World) (h1 : small W) (h2 : small H) (h3 : small x) (h4 : small y) : Calls Try.prog 92 #[.agg #[.int .i64 W, .int .i64 H], .int .i64 x, .int .i64 y] w (Says w (.tuple #[.int .i64 (x), .int .i64 (y)])) := by
  unfold small at h1 h2 h3 h4
  have e1 : IntKind.i64.wrap (W - x) = W - x := IntWalk.i64_in _ (by omega)
  have e2 : IntKind.i64.wrap (W - y) = W - y := IntWalk.i64_in _ (by omega)
  have e3 : IntKind.i64.wrap (H - x) = H - x := IntWalk.i64_in _ (by omega)
  have e4 : IntKind.i64.wrap (H - y) = H - y := IntWalk.i64_in _ (by omega)
  have HB := hide (below_alloc w (.cells #[.int .i64 W, .int .i64 H] 107))
  obtain ⟨_, c0, c1, _, _⟩ := (Bx.new w [.int .i64 W, .int .i64 H] 107).two
  clear h1 h2 h3 h4
  go_enter Try.func92, Try.ntmps92
  go_wp2_with fail
  refine bodyPost_ret (v := .tuple #[.int .i64 (x), .int .i64 (y)]) (by simp [results, Try.results92, go_sem]) rfl ⟨rfl, ?_⟩
  first | exact HB.out | exact Below.refl _ _
set_option maxHeartbeats 1000000 in
theorem corner_one (W H x y : Int) (w : World) (h1 : small W) (h2 : small H) (h3 : small x) (h4 : small y) : Calls Try.prog 93 #[.agg #[.int .i64 W, .int .i64 H], .int .i64 x, .int .i64 y] w (Says w (.tuple #[.int .i64 (y), .int .i64 (H - x)])) := by
  unfold small at h1 h2 h3 h4
  have e1 : IntKind.i64.wrap (W - x) = W - x := IntWalk.i64_in _ (by omega)
  have e2 : IntKind.i64.wrap (W - y) = W - y := IntWalk.i64_in _ (by omega)
  have e3 : IntKind.i64.wrap (H - x) = H - x := IntWalk.i64_in _ (by omega)
  have e4 : IntKind.i64.wrap (H - y) = H - y := IntWalk.i64_in _ (by omega)
  have HB := hide (below_alloc w (.cells #[.int .i64 W, .int .i64 H] 107))
  obtain ⟨_, c0, c1, _, _⟩ := (Bx.new w [.int .i64 W, .int .i64 H] 107).two
  clear h1 h2 h3 h4
  go_enter Try.func93, Try.ntmps93
  go_wp2_with fail
  go_quiet (fail)
  try simp only [e1, e2, e3, e4]
  have HJ := hide (bdrewN HB.out nq)
  generalize (w.alloc (.cells #[.int .i64 W, .int .i64 H] 107)).drewN nq = wE at HJ ⊢
  go_wp2_with fail
  refine bodyPost_ret (v := .tuple #[.int .i64 (y), .int .i64 (H - x)]) (by simp [results, Try.results93, go_sem]) rfl ⟨rfl, HJ.out⟩
set_option maxHeartbeats 1000000 in
theorem corner_two (W H x y : Int) (w : World) (h1 : small W) (h2 : small H) (h3 : small x) (h4 : small y) : Calls Try.prog 94 #[.agg #[.int .i64 W, .int .i64 H], .int .i64 x, .int .i64 y] w (Says w (.tuple #[.int .i64 (W - x), .int .i64 (H - y)])) := by
  unfold small at h1 h2 h3 h4
  have e1 : IntKind.i64.wrap (W - x) = W - x := IntWalk.i64_in _ (by omega)
  have e2 : IntKind.i64.wrap (W - y) = W - y := IntWalk.i64_in _ (by omega)
  have e3 : IntKind.i64.wrap (H - x) = H - x := IntWalk.i64_in _ (by omega)
  have e4 : IntKind.i64.wrap (H - y) = H - y := IntWalk.i64_in _ (by omega)
  have HB := hide (below_alloc w (.cells #[.int .i64 W, .int .i64 H] 107))
  obtain ⟨_, c0, c1, _, _⟩ := (Bx.new w [.int .i64 W, .int .i64 H] 107).two
  clear h1 h2 h3 h4
  go_enter Try.func94, Try.ntmps94
  go_wp2_with fail
  go_quiet (fail)
  try simp only [e1, e2, e3, e4]
  have HJ := hide (bdrewN HB.out nq)
  generalize (w.alloc (.cells #[.int .i64 W, .int .i64 H] 107)).drewN nq = wE at HJ ⊢
  go_wp2_with fail
  refine bodyPost_ret (v := .tuple #[.int .i64 (W - x), .int .i64 (H - y)]) (by simp [results, Try.results94, go_sem]) rfl ⟨rfl, HJ.out⟩
set_option maxHeartbeats 1000000 in
theorem corner_three (W H x y : Int) (w : World) (h1 : small W) (h2 : small H) (h3 : small x) (h4 : small y) : Calls Try.prog 95 #[.agg #[.int .i64 W, .int .i64 H], .int .i64 x, .int .i64 y] w (Says w (.tuple #[.int .i64 (W - y), .int .i64 (x)])) := by
  unfold small at h1 h2 h3 h4
  have e1 : IntKind.i64.wrap (W - x) = W - x := IntWalk.i64_in _ (by omega)
  have e2 : IntKind.i64.wrap (W - y) = W - y := IntWalk.i64_in _ (by omega)
  have e3 : IntKind.i64.wrap (H - x) = H - x := IntWalk.i64_in _ (by omega)
  have e4 : IntKind.i64.wrap (H - y) = H - y := IntWalk.i64_in _ (by omega)
  have HB := hide (below_alloc w (.cells #[.int .i64 W, .int .i64 H] 107))
  obtain ⟨_, c0, c1, _, _⟩ := (Bx.new w [.int .i64 W, .int .i64 H] 107).two
  clear h1 h2 h3 h4
  go_enter Try.func95, Try.ntmps95
  go_wp2_with fail
  refine bodyPost_ret (v := .tuple #[.int .i64 (W - y), .int .i64 (x)]) (by simp [results, Try.results95, go_sem]) rfl ⟨rfl, ?_⟩
  first | exact HB.out | exact Below.refl _ _

theorem Quarters_any (w : World) : Calls Try.prog 87 #[] w (Says w (.agg #[.func (.func 92) #[] #[], .func (.func 93) #[] #[], .func (.func 94) #[] #[], .func (.func 95) #[] #[]])) := by
  have HB := hide (below_alloc w)
  obtain ⟨_, c0, c1, c2, c3, f0, f1, f2, f3⟩ := (Bx.new w [.nilFunc, .nilFunc, .nilFunc, .nilFunc] 129).four
  have hsf := fun (w : World) (a : Addr) (fn : Fn) (first cap : Array Value) (m : Mode) => store_func w a fn first cap m
  go_enter Try.func87, Try.ntmps87
  go_wp2_with fail
  refine bodyPost_ret (v := .agg #[.func (.func 92) #[] #[], .func (.func 93) #[] #[], .func (.func 94) #[] #[], .func (.func 95) #[] #[]]) (by simp [results, Try.results87, go_sem]) rfl ⟨rfl, ?_⟩
  exact HB.out _

set_option maxHeartbeats 2000000 in
theorem From_0 (W H x y : Int) (w : World) (h1 : small W) (h2 : small H) (h3 : small x) (h4 : small y) : Calls Try.prog 62 #[.agg #[.int .i64 W, .int .i64 H], .int .i64 0, .int .i64 x, .int .i64 y] w (Says w (.tuple #[.int .i64 (x), .int .i64 (y)])) := by
  have HQ := hide (fun w => Quarters_any w)
  have HG := hide (fun w => corner_none W H x y w h1 h2 h3 h4)


  have HB := hide (below_alloc w (.cells #[.int .i64 W, .int .i64 H] 107))
  obtain ⟨_, c0, c1, _, _⟩ := (Bx.new w [.int .i64 W, .int .i64 H] 107).two
  clear h1 h2 h3 h4
  obtain ⟨u, hu⟩ : ∃ u, (x) = u := ⟨_, rfl⟩
  obtain ⟨v, hv⟩ : ∃ v, (y) = v := ⟨_, rfl⟩
  have HG' : Hid (∀ w, Calls Try.prog 92 #[.agg #[.int .i64 W, .int .i64 H], .int .i64 x, .int .i64 y] w (Says w (.tuple #[.int .i64 u, .int .i64 v]))) := fun w => by rw [← hu, ← hv]; exact HG.out w

  have HU := Lib.hid hu
  have HV := Lib.hid hv
  have hix : ∀ w, (Instr.index 129 (.agg #[.func (.func 92) #[] #[], .func (.func 93) #[] #[], .func (.func 94) #[] #[], .func (.func 95) #[] #[]]) (.int .i64 0)).run Try.prog w = .ok (.func (.func 92) #[] #[]) w := fun w => index_quads w 0 (by omega) _ rfl
  clear hu hv HG
  go_enter Try.func62, Try.ntmps62
  go_wp2_with fail
  replace c0 := cell_regrown c0
  replace c1 := cell_regrown c1
  refine wp_region_quiet_below (by kernel_rfl) (by kernel_rfl) ?_
  iterate 13 (go_big_quiet_step ((first | (go_at_call 87; exact Calls.regrown_of (HQ.out _)) | (go_at_call 92; exact Calls.regrown_of (HG'.out _)))))
  refine wpQuiet_nil ?_
  rintro w3 ⟨pw3, hw3⟩
  have HJ := hide (below_regrown (w.alloc (.cells #[.int .i64 W, .int .i64 H] 107)) pw3.d pw3.os)
  have d0 := c0 pw3.d pw3.os
  rw [← hw3] at HJ d0
  have HK := hide (HB.out.trans (HJ.out.mono HB.out.size))
  clear c0 c1 HJ hw3
  go_wp2_with fail
  refine bodyPost_ret (v := .tuple #[.int .i64 (u), .int .i64 v]) (by simp [results, Try.results62, go_sem]) rfl ⟨by rw [HU.out, HV.out], HK.out⟩

set_option maxHeartbeats 2000000 in
theorem From_1 (W H x y : Int) (w : World) (h1 : small W) (h2 : small H) (h3 : small x) (h4 : small y) : Calls Try.prog 62 #[.agg #[.int .i64 W, .int .i64 H], .int .i64 1, .int .i64 x, .int .i64 y] w (Says w (.tuple #[.int .i64 (y), .int .i64 (H - x)])) := by
  have HQ := hide (fun w => Quarters_any w)
  have HG := hide (fun w => corner_one W H x y w h1 h2 h3 h4)


  have HB := hide (below_alloc w (.cells #[.int .i64 W, .int .i64 H] 107))
  obtain ⟨_, c0, c1, _, _⟩ := (Bx.new w [.int .i64 W, .int .i64 H] 107).two
  clear h1 h2 h3 h4
  obtain ⟨u, hu⟩ : ∃ u, (y) = u := ⟨_, rfl⟩
  obtain ⟨v, hv⟩ : ∃ v, (H - x) = v := ⟨_, rfl⟩
  have HG' : Hid (∀ w, Calls Try.prog 93 #[.agg #[.int .i64 W, .int .i64 H], .int .i64 x, .int .i64 y] w (Says w (.tuple #[.int .i64 u, .int .i64 v]))) := fun w => by rw [← hu, ← hv]; exact HG.out w

  have HU := Lib.hid hu
  have HV := Lib.hid hv
  have hix : ∀ w, (Instr.index 129 (.agg #[.func (.func 92) #[] #[], .func (.func 93) #[] #[], .func (.func 94) #[] #[], .func (.func 95) #[] #[]]) (.int .i64 1)).run Try.prog w = .ok (.func (.func 93) #[] #[]) w := fun w => index_quads w 1 (by omega) _ rfl
  clear hu hv HG
  go_enter Try.func62, Try.ntmps62
  go_wp2_with fail
  replace c0 := cell_regrown c0
  replace c1 := cell_regrown c1
  refine wp_region_quiet_below (by kernel_rfl) (by kernel_rfl) ?_
  iterate 13 (go_big_quiet_step ((first | (go_at_call 87; exact Calls.regrown_of (HQ.out _)) | (go_at_call 93; exact Calls.regrown_of (HG'.out _)))))
  refine wpQuiet_nil ?_
  rintro w3 ⟨pw3, hw3⟩
  have HJ := hide (below_regrown (w.alloc (.cells #[.int .i64 W, .int .i64 H] 107)) pw3.d pw3.os)
  have d0 := c0 pw3.d pw3.os
  rw [← hw3] at HJ d0
  have HK := hide (HB.out.trans (HJ.out.mono HB.out.size))
  clear c0 c1 HJ hw3
  go_wp2_with fail
  refine bodyPost_ret (v := .tuple #[.int .i64 (u), .int .i64 v]) (by simp [results, Try.results62, go_sem]) rfl ⟨by rw [HU.out, HV.out], HK.out⟩

set_option maxHeartbeats 2000000 in
theorem From_2 (W H x y : Int) (w : World) (h1 : small W) (h2 : small H) (h3 : small x) (h4 : small y) : Calls Try.prog 62 #[.agg #[.int .i64 W, .int .i64 H], .int .i64 2, .int .i64 x, .int .i64 y] w (Says w (.tuple #[.int .i64 (W - x), .int .i64 (H - y)])) := by
  have HQ := hide (fun w => Quarters_any w)
  have HG := hide (fun w => corner_two W H x y w h1 h2 h3 h4)


  have HB := hide (below_alloc w (.cells #[.int .i64 W, .int .i64 H] 107))
  obtain ⟨_, c0, c1, _, _⟩ := (Bx.new w [.int .i64 W, .int .i64 H] 107).two
  clear h1 h2 h3 h4
  obtain ⟨u, hu⟩ : ∃ u, (W - x) = u := ⟨_, rfl⟩
  obtain ⟨v, hv⟩ : ∃ v, (H - y) = v := ⟨_, rfl⟩
  have HG' : Hid (∀ w, Calls Try.prog 94 #[.agg #[.int .i64 W, .int .i64 H], .int .i64 x, .int .i64 y] w (Says w (.tuple #[.int .i64 u, .int .i64 v]))) := fun w => by rw [← hu, ← hv]; exact HG.out w

  have HU := Lib.hid hu
  have HV := Lib.hid hv
  have hix : ∀ w, (Instr.index 129 (.agg #[.func (.func 92) #[] #[], .func (.func 93) #[] #[], .func (.func 94) #[] #[], .func (.func 95) #[] #[]]) (.int .i64 2)).run Try.prog w = .ok (.func (.func 94) #[] #[]) w := fun w => index_quads w 2 (by omega) _ rfl
  clear hu hv HG
  go_enter Try.func62, Try.ntmps62
  go_wp2_with fail
  replace c0 := cell_regrown c0
  replace c1 := cell_regrown c1
  refine wp_region_quiet_below (by kernel_rfl) (by kernel_rfl) ?_
  iterate 13 (go_big_quiet_step ((first | (go_at_call 87; exact Calls.regrown_of (HQ.out _)) | (go_at_call 94; exact Calls.regrown_of (HG'.out _)))))
  refine wpQuiet_nil ?_
  rintro w3 ⟨pw3, hw3⟩
  have HJ := hide (below_regrown (w.alloc (.cells #[.int .i64 W, .int .i64 H] 107)) pw3.d pw3.os)
  have d0 := c0 pw3.d pw3.os
  rw [← hw3] at HJ d0
  have HK := hide (HB.out.trans (HJ.out.mono HB.out.size))
  clear c0 c1 HJ hw3
  go_wp2_with fail
  refine bodyPost_ret (v := .tuple #[.int .i64 (u), .int .i64 v]) (by simp [results, Try.results62, go_sem]) rfl ⟨by rw [HU.out, HV.out], HK.out⟩

set_option maxHeartbeats 2000000 in
theorem From_3 (W H x y : Int) (w : World) (h1 : small W) (h2 : small H) (h3 : small x) (h4 : small y) : Calls Try.prog 62 #[.agg #[.int .i64 W, .int .i64 H], .int .i64 3, .int .i64 x, .int .i64 y] w (Says w (.tuple #[.int .i64 (W - y), .int .i64 (x)])) := by
  have HQ := hide (fun w => Quarters_any w)
  have HG := hide (fun w => corner_three W H x y w h1 h2 h3 h4)


  have HB := hide (below_alloc w (.cells #[.int .i64 W, .int .i64 H] 107))
  obtain ⟨_, c0, c1, _, _⟩ := (Bx.new w [.int .i64 W, .int .i64 H] 107).two
  clear h1 h2 h3 h4
  obtain ⟨u, hu⟩ : ∃ u, (W - y) = u := ⟨_, rfl⟩
  obtain ⟨v, hv⟩ : ∃ v, (x) = v := ⟨_, rfl⟩
  have HG' : Hid (∀ w, Calls Try.prog 95 #[.agg #[.int .i64 W, .int .i64 H], .int .i64 x, .int .i64 y] w (Says w (.tuple #[.int .i64 u, .int .i64 v]))) := fun w => by rw [← hu, ← hv]; exact HG.out w

  have HU := Lib.hid hu
  have HV := Lib.hid hv
  have hix : ∀ w, (Instr.index 129 (.agg #[.func (.func 92) #[] #[], .func (.func 93) #[] #[], .func (.func 94) #[] #[], .func (.func 95) #[] #[]]) (.int .i64 3)).run Try.prog w = .ok (.func (.func 95) #[] #[]) w := fun w => index_quads w 3 (by omega) _ rfl
  clear hu hv HG
  go_enter Try.func62, Try.ntmps62
  go_wp2_with fail
  replace c0 := cell_regrown c0
  replace c1 := cell_regrown c1
  refine wp_region_quiet_below (by kernel_rfl) (by kernel_rfl) ?_
  iterate 13 (go_big_quiet_step ((first | (go_at_call 87; exact Calls.regrown_of (HQ.out _)) | (go_at_call 95; exact Calls.regrown_of (HG'.out _)))))
  refine wpQuiet_nil ?_
  rintro w3 ⟨pw3, hw3⟩
  have HJ := hide (below_regrown (w.alloc (.cells #[.int .i64 W, .int .i64 H] 107)) pw3.d pw3.os)
  have d0 := c0 pw3.d pw3.os
  rw [← hw3] at HJ d0
  have HK := hide (HB.out.trans (HJ.out.mono HB.out.size))
  clear c0 c1 HJ hw3
  go_wp2_with fail
  refine bodyPost_ret (v := .tuple #[.int .i64 (u), .int .i64 v]) (by simp [results, Try.results62, go_sem]) rfl ⟨by rw [HU.out, HV.out], HK.out⟩

set_option maxHeartbeats 2000000 in
theorem From_4 (W H x y : Int) (w : World) (h1 : small W) (h2 : small H) (h3 : small x) (h4 : small y) : Calls Try.prog 62 #[.agg #[.int .i64 W, .int .i64 H], .int .i64 4, .int .i64 x, .int .i64 y] w (Says w (.tuple #[.int .i64 (W - (x)), .int .i64 (y)])) := by
  have HQ := hide (fun w => Quarters_any w)
  have HG := hide (fun w => corner_none W H x y w h1 h2 h3 h4)
  unfold small at h1 h2 h3 h4
  have e1 : wrap64 (W - (x)) = W - (x) := IntWalk.wrap64_in _ (by omega)
  have HB := hide (below_alloc w (.cells #[.int .i64 W, .int .i64 H] 107))
  obtain ⟨_, c0, c1, _, _⟩ := (Bx.new w [.int .i64 W, .int .i64 H] 107).two
  clear h1 h2 h3 h4
  obtain ⟨u, hu⟩ : ∃ u, (x) = u := ⟨_, rfl⟩
  obtain ⟨v, hv⟩ : ∃ v, (y) = v := ⟨_, rfl⟩
  have HG' : Hid (∀ w, Calls Try.prog 92 #[.agg #[.int .i64 W, .int .i64 H], .int .i64 x, .int .i64 y] w (Says w (.tuple #[.int .i64 u, .int .i64 v]))) := fun w => by rw [← hu, ← hv]; exact HG.out w
  have e1' : wrap64 (W - u) = W - u := by rw [← hu]; exact e1
  have HU := Lib.hid hu
  have HV := Lib.hid hv
  have hix : ∀ w, (Instr.index 129 (.agg #[.func (.func 92) #[] #[], .func (.func 93) #[] #[], .func (.func 94) #[] #[], .func (.func 95) #[] #[]]) (.int .i64 0)).run Try.prog w = .ok (.func (.func 92) #[] #[]) w := fun w => index_quads w 0 (by omega) _ rfl
  clear hu hv HG e1
  go_enter Try.func62, Try.ntmps62
  go_wp2_with fail
  replace c0 := cell_regrown c0
  replace c1 := cell_regrown c1
  refine wp_region_quiet_below (by kernel_rfl) (by kernel_rfl) ?_
  iterate 13 (go_big_quiet_step ((first | (go_at_call 87; exact Calls.regrown_of (HQ.out _)) | (go_at_call 92; exact Calls.regrown_of (HG'.out _)))))
  refine wpQuiet_nil ?_
  rintro w3 ⟨pw3, hw3⟩
  have HJ := hide (below_regrown (w.alloc (.cells #[.int .i64 W, .int .i64 H] 107)) pw3.d pw3.os)
  have d0 := c0 pw3.d pw3.os
  rw [← hw3] at HJ d0
  have HK := hide (HB.out.trans (HJ.out.mono HB.out.size))
  clear c0 c1 HJ hw3
  go_wp2_with fail
  refine bodyPost_ret (v := .tuple #[.int .i64 (W - u), .int .i64 v]) (by simp [results, Try.results62, go_sem, e1']) rfl ⟨by rw [HU.out, HV.out], HK.out⟩

set_option maxHeartbeats 2000000 in
theorem From_5 (W H x y : Int) (w : World) (h1 : small W) (h2 : small H) (h3 : small x) (h4 : small y) : Calls Try.prog 62 #[.agg #[.int .i64 W, .int .i64 H], .int .i64 5, .int .i64 x, .int .i64 y] w (Says w (.tuple #[.int .i64 (W - (y)), .int .i64 (H - x)])) := by
  have HQ := hide (fun w => Quarters_any w)
  have HG := hide (fun w => corner_one W H x y w h1 h2 h3 h4)
  unfold small at h1 h2 h3 h4
  have e1 : wrap64 (W - (y)) = W - (y) := IntWalk.wrap64_in _ (by omega)
  have HB := hide (below_alloc w (.cells #[.int .i64 W, .int .i64 H] 107))
  obtain ⟨_, c0, c1, _, _⟩ := (Bx.new w [.int .i64 W, .int .i64 H] 107).two
  clear h1 h2 h3 h4
  obtain ⟨u, hu⟩ : ∃ u, (y) = u := ⟨_, rfl⟩
  obtain ⟨v, hv⟩ : ∃ v, (H - x) = v := ⟨_, rfl⟩
  have HG' : Hid (∀ w, Calls Try.prog 93 #[.agg #[.int .i64 W, .int .i64 H], .int .i64 x, .int .i64 y] w (Says w (.tuple #[.int .i64 u, .int .i64 v]))) := fun w => by rw [← hu, ← hv]; exact HG.out w
  have e1' : wrap64 (W - u) = W - u := by rw [← hu]; exact e1
  have HU := Lib.hid hu
  have HV := Lib.hid hv
  have hix : ∀ w, (Instr.index 129 (.agg #[.func (.func 92) #[] #[], .func (.func 93) #[] #[], .func (.func 94) #[] #[], .func (.func 95) #[] #[]]) (.int .i64 1)).run Try.prog w = .ok (.func (.func 93) #[] #[]) w := fun w => index_quads w 1 (by omega) _ rfl
  clear hu hv HG e1
  go_enter Try.func62, Try.ntmps62
  go_wp2_with fail
  replace c0 := cell_regrown c0
  replace c1 := cell_regrown c1
  refine wp_region_quiet_below (by kernel_rfl) (by kernel_rfl) ?_
  iterate 13 (go_big_quiet_step ((first | (go_at_call 87; exact Calls.regrown_of (HQ.out _)) | (go_at_call 93; exact Calls.regrown_of (HG'.out _)))))
  refine wpQuiet_nil ?_
  rintro w3 ⟨pw3, hw3⟩
  have HJ := hide (below_regrown (w.alloc (.cells #[.int .i64 W, .int .i64 H] 107)) pw3.d pw3.os)
  have d0 := c0 pw3.d pw3.os
  rw [← hw3] at HJ d0
  have HK := hide (HB.out.trans (HJ.out.mono HB.out.size))
  clear c0 c1 HJ hw3
  go_wp2_with fail
  refine bodyPost_ret (v := .tuple #[.int .i64 (W - u), .int .i64 v]) (by simp [results, Try.results62, go_sem, e1']) rfl ⟨by rw [HU.out, HV.out], HK.out⟩

set_option maxHeartbeats 2000000 in
theorem From_6 (W H x y : Int) (w : World) (h1 : small W) (h2 : small H) (h3 : small x) (h4 : small y) : Calls Try.prog 62 #[.agg #[.int .i64 W, .int .i64 H], .int .i64 6, .int .i64 x, .int .i64 y] w (Says w (.tuple #[.int .i64 (W - (W - x)), .int .i64 (H - y)])) := by
  have HQ := hide (fun w => Quarters_any w)
  have HG := hide (fun w => corner_two W H x y w h1 h2 h3 h4)
  unfold small at h1 h2 h3 h4
  have e1 : wrap64 (W - (W - x)) = W - (W - x) := IntWalk.wrap64_in _ (by omega)
  have HB := hide (below_alloc w (.cells #[.int .i64 W, .int .i64 H] 107))
  obtain ⟨_, c0, c1, _, _⟩ := (Bx.new w [.int .i64 W, .int .i64 H] 107).two
  clear h1 h2 h3 h4
  obtain ⟨u, hu⟩ : ∃ u, (W - x) = u := ⟨_, rfl⟩
  obtain ⟨v, hv⟩ : ∃ v, (H - y) = v := ⟨_, rfl⟩
  have HG' : Hid (∀ w, Calls Try.prog 94 #[.agg #[.int .i64 W, .int .i64 H], .int .i64 x, .int .i64 y] w (Says w (.tuple #[.int .i64 u, .int .i64 v]))) := fun w => by rw [← hu, ← hv]; exact HG.out w
  have e1' : wrap64 (W - u) = W - u := by rw [← hu]; exact e1
  have HU := Lib.hid hu
  have HV := Lib.hid hv
  have hix : ∀ w, (Instr.index 129 (.agg #[.func (.func 92) #[] #[], .func (.func 93) #[] #[], .func (.func 94) #[] #[], .func (.func 95) #[] #[]]) (.int .i64 2)).run Try.prog w = .ok (.func (.func 94) #[] #[]) w := fun w => index_quads w 2 (by omega) _ rfl
  clear hu hv HG e1
  go_enter Try.func62, Try.ntmps62
  go_wp2_with fail
  replace c0 := cell_regrown c0
  replace c1 := cell_regrown c1
  refine wp_region_quiet_below (by kernel_rfl) (by kernel_rfl) ?_
  iterate 13 (go_big_quiet_step ((first | (go_at_call 87; exact Calls.regrown_of (HQ.out _)) | (go_at_call 94; exact Calls.regrown_of (HG'.out _)))))
  refine wpQuiet_nil ?_
  rintro w3 ⟨pw3, hw3⟩
  have HJ := hide (below_regrown (w.alloc (.cells #[.int .i64 W, .int .i64 H] 107)) pw3.d pw3.os)
  have d0 := c0 pw3.d pw3.os
  rw [← hw3] at HJ d0
  have HK := hide (HB.out.trans (HJ.out.mono HB.out.size))
  clear c0 c1 HJ hw3
  go_wp2_with fail
  refine bodyPost_ret (v := .tuple #[.int .i64 (W - u), .int .i64 v]) (by simp [results, Try.results62, go_sem, e1']) rfl ⟨by rw [HU.out, HV.out], HK.out⟩

set_option maxHeartbeats 2000000 in
theorem From_7 (W H x y : Int) (w : World) (h1 : small W) (h2 : small H) (h3 : small x) (h4 : small y) : Calls Try.prog 62 #[.agg #[.int .i64 W, .int .i64 H], .int .i64 7, .int .i64 x, .int .i64 y] w (Says w (.tuple #[.int .i64 (W - (W - y)), .int .i64 (x)])) := by
  have HQ := hide (fun w => Quarters_any w)
  have HG := hide (fun w => corner_three W H x y w h1 h2 h3 h4)
  unfold small at h1 h2 h3 h4
  have e1 : wrap64 (W - (W - y)) = W - (W - y) := IntWalk.wrap64_in _ (by omega)
  have HB := hide (below_alloc w (.cells #[.int .i64 W, .int .i64 H] 107))
  obtain ⟨_, c0, c1, _, _⟩ := (Bx.new w [.int .i64 W, .int .i64 H] 107).two
  clear h1 h2 h3 h4
  obtain ⟨u, hu⟩ : ∃ u, (W - y) = u := ⟨_, rfl⟩
  obtain ⟨v, hv⟩ : ∃ v, (x) = v := ⟨_, rfl⟩
  have HG' : Hid (∀ w, Calls Try.prog 95 #[.agg #[.int .i64 W, .int .i64 H], .int .i64 x, .int .i64 y] w (Says w (.tuple #[.int .i64 u, .int .i64 v]))) := fun w => by rw [← hu, ← hv]; exact HG.out w
  have e1' : wrap64 (W - u) = W - u := by rw [← hu]; exact e1
  have HU := Lib.hid hu
  have HV := Lib.hid hv
  have hix : ∀ w, (Instr.index 129 (.agg #[.func (.func 92) #[] #[], .func (.func 93) #[] #[], .func (.func 94) #[] #[], .func (.func 95) #[] #[]]) (.int .i64 3)).run Try.prog w = .ok (.func (.func 95) #[] #[]) w := fun w => index_quads w 3 (by omega) _ rfl
  clear hu hv HG e1
  go_enter Try.func62, Try.ntmps62
  go_wp2_with fail
  replace c0 := cell_regrown c0
  replace c1 := cell_regrown c1
  refine wp_region_quiet_below (by kernel_rfl) (by kernel_rfl) ?_
  iterate 13 (go_big_quiet_step ((first | (go_at_call 87; exact Calls.regrown_of (HQ.out _)) | (go_at_call 95; exact Calls.regrown_of (HG'.out _)))))
  refine wpQuiet_nil ?_
  rintro w3 ⟨pw3, hw3⟩
  have HJ := hide (below_regrown (w.alloc (.cells #[.int .i64 W, .int .i64 H] 107)) pw3.d pw3.os)
  have d0 := c0 pw3.d pw3.os
  rw [← hw3] at HJ d0
  have HK := hide (HB.out.trans (HJ.out.mono HB.out.size))
  clear c0 c1 HJ hw3
  go_wp2_with fail
  refine bodyPost_ret (v := .tuple #[.int .i64 (W - u), .int .i64 v]) (by simp [results, Try.results62, go_sem, e1']) rfl ⟨by rw [HU.out, HV.out], HK.out⟩

theorem turn_cases {q : Int} (h : 0 ≤ q ∧ q ≤ 7) : q = 0 ∨ q = 1 ∨ q = 2 ∨ q = 3 ∨ q = 4 ∨ q = 5 ∨ q = 6 ∨ q = 7 := by omega
theorem From_any (q W H x y : Int) (w : World) (hq : 0 ≤ q ∧ q ≤ 7) (h1 : small W) (h2 : small H) (h3 : small x) (h4 : small y) :
    Calls Try.prog 62 #[.agg #[.int .i64 W, .int .i64 H], .int .i64 q, .int .i64 x, .int .i64 y] w (Says w (.tuple #[.int .i64 (turnU q W x y), .int .i64 (turnV q H x y)])) := by
  rcases turn_cases hq with rfl | rfl | rfl | rfl | rfl | rfl | rfl | rfl
  · exact From_0 W H x y w h1 h2 h3 h4
  · exact From_1 W H x y w h1 h2 h3 h4
  · exact From_2 W H x y w h1 h2 h3 h4
  · exact From_3 W H x y w h1 h2 h3 h4
  · exact From_4 W H x y w h1 h2 h3 h4
  · exact From_5 W H x y w h1 h2 h3 h4
  · exact From_6 W H x y w h1 h2 h3 h4
  · exact From_7 W H x y w h1 h2 h3 h4
end Go.Proofs.Ytgcnmffbhjlolab
