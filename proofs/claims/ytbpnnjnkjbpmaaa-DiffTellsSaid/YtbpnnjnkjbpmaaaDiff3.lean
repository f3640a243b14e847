/-
Contract of layer 13's fixed facts. The law DiffPeak: its walk. No statement is proved here.
-/
import Derived.Test.YtbpnnjnkjbpmaaaDiff2
import Derived.Test.YtbpnnjnkjbpmaaaPeak
import Derived.Lib.QuietBelow
import Derived.BigQuiet
namespace Go.Proofs.Ytbpnnjnkjbpmaaa
open Go.RowKit

set_option maxHeartbeats 1000000 in
theorem eql_diff (r s : Df) (w : World) : (binOp .eql 28 (.agg #[.int .i64 r.cnt, .int .i64 r.most, .int .u64 r.sum, .int .u64 r.sq, .int .i64 r.x, .int .i64 r.y, .int .i64 r.k]) (.agg #[.int .i64 s.cnt, .int .i64 s.most, .int .u64 s.sum, .int .u64 s.sq, .int .i64 s.x, .int .i64 s.y, .int .i64 s.k])).run Try.prog w = Result.ok (.bool (decide (r = s))) w := by
  cases r; cases s
  simp [go_sem]
  repeat (first | rfl | (split; simp_all) | simp_all)

theorem by_one (w : World) (b : Int) (hb : 0 ≤ b ∧ b ≤ 255) (T : TypeId) : BY (w.alloc (.cells #[.int .u8 b] T)) (some ⟨w.heap.size, 0, none⟩) 1 1 [b] := by
  refine ⟨rfl, Nat.le_refl _, by unfold maxLen; omega, fun x hx => by simp at hx; omega, fun _ => ⟨w.heap.size, 0, rfl, by simp, fun i hi => ?_⟩⟩
  obtain rfl : i = 0 := by omega
  simp [World.cell?_alloc_new]

theorem alive13_any (w : World) : Calls Try.prog 13 #[] w (Says w (.bool true)) := by
  have h1 := by_one w 5 (by omega) 5
  have h2 := by_one (w.alloc (.cells #[.int .u8 5] 5)) 9 (by omega) 5
  have HO := hide (Of_ok 1 1 1 _ _ 1 1 1 [5] [9] _ (h1.below (below_alloc _ (.cells #[.int .u8 9] 5))) h2 (by decide) (by omega) (by omega) (by omega))
  rw [show dfold 1 1 [5] [9] 1 = ⟨1, 4, 4, 16, 0, 0, 0⟩ by decide] at HO
  rw [World.size_alloc] at HO
  have H0 := hide (below_alloc2 w (.cells #[.int .u8 5] 5) (.cells #[.int .u8 9] 5))
  have hq := fun w => eql_diff ⟨1, 4, 4, 16, 0, 0, 0⟩ ⟨1, 4, 4, 16, 0, 0, 0⟩ w
  rw [decide_eq_true rfl] at hq
  simp only at hq
  clear h1 h2
  go_enter Try.func13, Try.ntmps13
  go_wp2_with fail
  refine HO.out.mono ?_
  rintro e w1 ⟨rfl, hb⟩
  have B1 := hide ((H0.out.trans (hb.mono (by simp; omega))).alloc (by have := hb.size; simp at this; omega) (.cells #[.int .i64 1, .int .i64 4, .int .u64 4, .int .u64 16, .int .i64 0, .int .i64 0, .int .i64 0] 28))
  clear hb
  go_wp2_with fail
  go_ret
  exact ⟨rfl, B1.out⟩

set_option maxHeartbeats 1000000 in
theorem DiffPeak_walk (d : Df) (n : Int) (hq : 0 ≤ d.sq ∧ d.sq ≤ 18446744073709551615) (hn : n ≤ 9223372036854775807) (w : World) :
    Calls Try.prog 4 #[.agg #[.int .i64 d.cnt, .int .i64 d.most, .int .u64 d.sum, .int .u64 d.sq, .int .i64 d.x, .int .i64 d.y, .int .i64 d.k], .int .i64 n] w (Says w (.bool true)) := by
  have H1 := hide (fun w => Peak_any d.cnt d.most d.sum d.sq d.x d.y d.k n hq hn w)
  have H2 := hide (fun w => RPeak_any d.sq n hq hn w)
  have HA := hide alive13_any
  have X := Bx.at (w := w) (g := w.heap.size) (lD d) 28 rfl
  have H0 := hide (below_alloc w (.cells #[.int .i64 d.cnt, .int .i64 d.most, .int .u64 d.sum, .int .u64 d.sq, .int .i64 d.x, .int .i64 d.y, .int .i64 d.k] 28))
  obtain ⟨z, hz⟩ : ∃ z, peakZ d.sq n = z := ⟨_, rfl⟩
  rw [hz] at H1 H2
  obtain ⟨_, ⟨d0, d1, d2, d3, d4, d5, d6⟩, _⟩ := X.seven
  replace d0 := cell_regrown d0
  replace d1 := cell_regrown d1
  replace d2 := cell_regrown d2
  replace d3 := cell_regrown d3
  replace d4 := cell_regrown d4
  replace d5 := cell_regrown d5
  replace d6 := cell_regrown d6
  clear hz hq hn X
  go_enter Try.func4, Try.ntmps4
  go_wp2_with fail
  refine wp_region_quiet_below (by kernel_rfl) (by kernel_rfl) ?_
  repeat (go_big_quiet_step ((first
    | (go_at_call 16; exact Calls.regrown_of (H1.out _))
    | (go_at_call 17; exact Calls.regrown_of (H2.out _))
    | (go_at_call 13; exact Calls.regrown_of (HA.out _)))))
  refine wpQuiet_nil ?_
  rintro w3 ⟨p3, h3⟩
  have K3 := h3 ▸ H0.out.trans ((below_regrown _ p3.d p3.os).mono (by simp))
  clear h3 d0 d1 d2 d3 d4 d5 d6
  go_wp2_with fail
  go_ret
  exact ⟨rfl, K3⟩

end Go.Proofs.Ytbpnnjnkjbpmaaa
