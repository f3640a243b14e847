/-
Contracts of what mip.Half calls, of the smallest images. No statement is proved here.
-/
import Derived.Test.YtehkccogbgjcaaaMp1
import Derived.Test.YtehkccogbgjcaaaMk0
import Derived.BigQuiet
import Derived.Deep.QuietTactic
namespace Go.Proofs.Ytehkccogbgjcaaa
open Go.RowKit

theorem isize_any (x y c : Int) (h : (x = 2 ∧ y = 1 ∧ c = 1) ∨ (x = 1 ∧ y = 1 ∧ c = 1)) (w : World) : Calls Try.prog 95 #[.int .i64 x, .int .i64 y, .int .i64 c] w fun e w' => e = .returned (.int .i64 0) ∧ w = w' := by
  rcases h with ⟨rfl, rfl, rfl⟩ | ⟨rfl, rfl, rfl⟩
  all_goals
    go_enter Try.func95, Try.ntmps95
    go_wp2_with fail
    go_ret
    exact ⟨rfl, rfl⟩
theorem ICheck_one (gb : Nat) (w : World) : Calls Try.prog 86 #[.agg #[.int .i64 2, .int .i64 1, .int .i64 1, .slice (some ⟨gb, 0, none⟩) 2 2]] w (Says w (.int .i64 0)) := by
  have HB := hide (below_alloc w (.cells #[.int .i64 2, .int .i64 1, .int .i64 1, .slice (some ⟨gb, 0, none⟩) 2 2] 72))
  have HS := hide (fun w => isize_any 2 1 1 (.inl ⟨rfl, rfl, rfl⟩) w)
  go_enter Try.func86, Try.ntmps86
  go_wp2_with fail
  refine (HS.out _).mono ?_
  rintro e w1 ⟨rfl, rfl⟩
  go_wp2_with fail
  go_ret
  exact ⟨rfl, HB.out⟩
theorem INew_one (w : World) : Calls Try.prog 91 #[.int .i64 1, .int .i64 1, .int .i64 1] w fun e w' => ∃ g, e = .returned (.tuple #[.agg #[.int .i64 1, .int .i64 1, .int .i64 1, .slice (some ⟨g, 0, none⟩) 1 1], .int .i64 0]) ∧ w.heap.size ≤ g ∧ Bx w' g [.int .u8 0] ∧ Below w.heap.size w w' := by
  have HS := hide (fun w => isize_any 1 1 1 (.inr ⟨rfl, rfl, rfl⟩) w)
  have hmk := fun (w : World) => run_make_bytes (m := (1 : Int)) (n := 1) rfl (by omega) w
  have HK := hide (below_alloc2 w)
  go_enter Try.func91, Try.ntmps91
  go_wp2_with fail
  refine (HS.out _).mono ?_
  rintro e w1 ⟨rfl, rfl⟩
  go_wp2_with fail
  refine bodyPost_ret (v := .tuple #[.agg #[.int .i64 1, .int .i64 1, .int .i64 1, .slice (some ⟨w.heap.size + 1, 0, none⟩) 1 1], .int .i64 0]) (by simp [results, Try.results91, go_sem]) rfl ⟨w.heap.size + 1, rfl, by omega, ?_, ?_⟩
  · exact Bx.at [.int .u8 0] _ (by simp)
  · exact HK.out _ _
theorem MRow_any (x y c : Int) (bb n cap : Nat) (L : Nat) (w : World) (hx : wrap64 (x * c) = (L : Int)) (hL : L ≤ cap) (hn : cap ≤ 1000) :
    Calls Try.prog 93 #[.agg #[.int .i64 x, .int .i64 y, .int .i64 c, .slice (some ⟨bb, 0, none⟩) n cap], .int .i64 0] w (Says w (.slice (some ⟨bb, 0, none⟩) L cap)) := by
  have HB := hide (below_alloc w (.cells #[.int .i64 x, .int .i64 y, .int .i64 c, .slice (some ⟨bb, 0, none⟩) n cap] 72))
  have i1 : (0 : Int) ≤ (L : Int) := by omega
  have i2 : (L : Int) ≤ (cap : Int) := by omega
  have i3 : (L : Int) ≤ 1000 := by omega
  clear hL hn
  go_enter Try.func93, Try.ntmps93
  go_wp2_with fail
  go_ret
  exact ⟨rfl, HB.out⟩
set_option maxHeartbeats 2000000 in
theorem MMix_one (g gb : Nat) (w : World) (hg : Bx w g [.int .u8 0]) (hb : Bx w gb [.int .u8 1, .int .u8 2]) :
    Calls Try.prog 92 #[.slice (some ⟨g, 0, none⟩) 1 1, .slice (some ⟨gb, 0, none⟩) 2 2, .slice (some ⟨gb, 0, none⟩) 2 2, .int .i64 1] w fun e w' => e = .returned (.tuple #[]) ∧ ∃ m, w' = (w.drewN m).setCell ⟨g, 0, none⟩ (.int .u8 2) := by
  obtain ⟨_, c0, f0⟩ := hg.one
  obtain ⟨_, d0, d1, _, _⟩ := hb.two
  go_enter Try.func92, Try.ntmps92
  go_wp2_with fail
  go_loopw [14] (fun i wr => (i = .int .i64 0 ∧ wr = w) ∨ (i = .int .i64 1 ∧ ∃ m, wr = (w.drewN m).setCell ⟨g, 0, none⟩ (.int .u8 2))) (fun i _ => 1 - (intOf i).toNat)
  case atStart => exact Or.inl ⟨rfl, rfl⟩
  case round =>
    rcases hrel with ⟨rfl, rfl⟩ | ⟨rfl, m, rfl⟩
    · go_wp2_with fail
      refine wp_region_quiet_lit (by kernel_rfl) (by kernel_rfl) ?_
      iterate 24 go_big_quiet_step (fail)
      refine wpQuiet_nil ?_
      intro _ hw'
      obtain ⟨nq, hw''⟩ := hw'
      subst hw''
      go_wp2_with fail
      go_roundw
      case rel => exact Or.inr ⟨rfl, nq, rfl⟩
      case measure => simp [intOf]
    · go_wp2_with fail
      refine bodyPost_end (v := .tuple #[]) (by simp [results, Try.results92]) rfl ?_
      exact ⟨rfl, m, rfl⟩
end Go.Proofs.Ytehkccogbgjcaaa
