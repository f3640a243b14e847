/-
Contracts of weight's Linear and Cubic. No statement is proved here.
-/
import Derived.Test.YtbogckpnajjlmaaRows
import Derived.Test.YtbogckpnajjlmaaWei0
namespace Go.Proofs.Ytbogckpnajjlmaa
open Go.RowKit

theorem Outer_any (t : Int) (h0 : 0 ≤ t) (h1 : t ≤ 256) (w : World) : Calls Try.prog 54 #[.int .i64 t] w fun e w' => e = .returned (.int .i64 (outerZ t)) ∧ w = w' := by
  obtain ⟨a, b, c, e1, e2, e3, e4⟩ : ∃ a b c, wrap64 (-t) = a ∧ wrap64 (256 - t) = b ∧ wrap64 (a * b) = c ∧ wrap64 (c * b) = outerZ t := by
    obtain ⟨n, rfl⟩ := fin_of h0 h1
    exact ⟨_, _, _, rfl, rfl, rfl, (outer_run n).1⟩
  generalize outerZ t = z at *
  clear h0 h1
  go_enter Try.func54, Try.ntmps54
  go_wp2_with fail
  go_ret
  exact ⟨e4 ▸ rfl, rfl⟩
theorem Inner_any (t : Int) (h0 : 0 ≤ t) (h1 : t ≤ 256) (w : World) : Calls Try.prog 55 #[.int .i64 t] w fun e w' => e = .returned (.int .i64 (innerZ t)) ∧ w = w' := by
  obtain ⟨a, b, c, d, e1, e2, e3, e4, e5⟩ : ∃ a b c d, wrap64 (3 * t) = a ∧ wrap64 (a - 1280) = b ∧ wrap64 (b * t) = c ∧ wrap64 (c * t) = d ∧ wrap64 (d + 33554432) = innerZ t := by
    obtain ⟨n, rfl⟩ := fin_of h0 h1
    exact ⟨_, _, _, _, rfl, rfl, rfl, rfl, (inner_run n).1⟩
  generalize innerZ t = z at *
  clear h0 h1
  go_enter Try.func55, Try.ntmps55
  go_wp2_with fail
  go_ret
  exact ⟨e5 ▸ rfl, rfl⟩
set_option maxHeartbeats 1000000 in
theorem WLinear_no (f : Int) (h : ¬ (0 ≤ f ∧ f ≤ 65536)) (w : World) : Calls Try.prog 22 #[.int .i64 f] w (Says w (.tuple #[.agg #[.int .i64 0, .int .i64 0], .int .i64 11])) := by
  have HB := hide (below_alloc w)
  by_cases k : f < 0
  · clear h
    go_enter Try.func22, Try.ntmps22
    go_wp2_with fail
    refine bodyPost_ret (v := .tuple #[.agg #[.int .i64 0, .int .i64 0], .int .i64 11]) (by simp [results, Try.results22, go_sem]) rfl ⟨rfl, ?_⟩
    exact HB.out _
  · have k2 : 65536 < f := by omega
    clear h
    go_enter Try.func22, Try.ntmps22
    go_wp2_with fail
    refine bodyPost_ret (v := .tuple #[.agg #[.int .i64 0, .int .i64 0], .int .i64 11]) (by simp [results, Try.results22, go_sem]) rfl ⟨rfl, ?_⟩
    exact HB.out _
set_option maxHeartbeats 1000000 in
theorem WLinear_yes (f : Int) (h0 : 0 ≤ f) (h1 : f ≤ 65536) (w : World) : Calls Try.prog 22 #[.int .i64 f] w (Says w (.tuple #[.agg #[.int .i64 (65536 - f), .int .i64 f], .int .i64 0])) := by
  have HB := hide (below_alloc w)
  have e1 : wrap64 (65536 - f) = 65536 - f := IntWalk.wrap64_in _ (by omega)
  go_enter Try.func22, Try.ntmps22
  go_wp2_with fail
  refine bodyPost_ret (v := .tuple #[.agg #[.int .i64 (65536 - f), .int .i64 f], .int .i64 0]) (by simp [results, Try.results22, go_sem]) rfl ⟨rfl, ?_⟩
  exact HB.out _
set_option maxHeartbeats 1000000 in
theorem WCubic_no (t : Int) (h : ¬ (0 ≤ t ∧ t ≤ 256)) (w : World) : Calls Try.prog 23 #[.int .i64 t] w (Says w (.tuple #[.agg #[.int .i64 0, .int .i64 0, .int .i64 0, .int .i64 0], .int .i64 11])) := by
  have HB := hide (below_alloc w)
  by_cases k : t < 0
  · clear h
    go_enter Try.func23, Try.ntmps23
    go_wp2_with fail
    refine bodyPost_ret (v := .tuple #[.agg #[.int .i64 0, .int .i64 0, .int .i64 0, .int .i64 0], .int .i64 11]) (by simp [results, Try.results23, go_sem]) rfl ⟨rfl, ?_⟩
    exact HB.out _
  · have k2 : 256 < t := by omega
    clear h
    go_enter Try.func23, Try.ntmps23
    go_wp2_with fail
    refine bodyPost_ret (v := .tuple #[.agg #[.int .i64 0, .int .i64 0, .int .i64 0, .int .i64 0], .int .i64 11]) (by simp [results, Try.results23, go_sem]) rfl ⟨rfl, ?_⟩
    exact HB.out _
set_option maxHeartbeats 1000000 in
theorem WCubic_yes (t : Int) (h0 : 0 ≤ t) (h1 : t ≤ 256) (w : World) : Calls Try.prog 23 #[.int .i64 t] w (Says w (.tuple #[.agg #[.int .i64 (outerZ t), .int .i64 (innerZ t), .int .i64 (innerZ (256 - t)), .int .i64 (outerZ (256 - t))], .int .i64 0])) := by
  have HB := hide (below_alloc w)
  have H1 := hide (fun w => Outer_any t h0 h1 w)
  have H2 := hide (fun w => Inner_any t h0 h1 w)
  have H3 := hide (fun w => Inner_any (256 - t) (by omega) (by omega) w)
  have H4 := hide (fun w => Outer_any (256 - t) (by omega) (by omega) w)
  generalize outerZ t = a at *
  generalize innerZ t = b at *
  generalize outerZ (256 - t) = d at *
  generalize innerZ (256 - t) = c at *
  go_enter Try.func23, Try.ntmps23
  go_wp2_with fail
  refine (H1.out _).mono ?_
  rintro e w1 ⟨rfl, rfl⟩
  go_wp2_with fail
  refine (H2.out _).mono ?_
  rintro e w1 ⟨rfl, rfl⟩
  go_wp2_with fail
  refine (H3.out _).mono ?_
  rintro e w1 ⟨rfl, rfl⟩
  go_wp2_with fail
  refine (H4.out _).mono ?_
  rintro e w1 ⟨rfl, rfl⟩
  go_wp2_with fail
  refine bodyPost_ret (v := .tuple #[.agg #[.int .i64 a, .int .i64 b, .int .i64 c, .int .i64 d], .int .i64 0]) (by simp [results, Try.results23, go_sem]) rfl ⟨rfl, ?_⟩
  exact HB.out _
end Go.Proofs.Ytbogckpnajjlmaa
