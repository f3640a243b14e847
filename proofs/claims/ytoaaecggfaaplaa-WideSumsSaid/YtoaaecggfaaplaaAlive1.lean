/-
Contract of layer 1's fixed facts. No statement is proved here.
-/
import Derived.Test.YtoaaecggfaaplaaTxt1
import Derived.Test.YtoaaecggfaaplaaWid4
namespace Go.Proofs.Ytoaaecggfaaplaa
open Go.RowKit

theorem dtx_yes {u : Nat} {L : List Nat} (h : u / 10 = 0) : dtx u L = (48 + u % 10) :: L := by rw [dtx, if_pos h]
theorem dtx_no {u : Nat} {L : List Nat} (h : u / 10 ≠ 0) : dtx u L = dtx (u / 10) ((48 + u % 10) :: L) := by rw [dtx, if_neg h]
theorem dtx64 : dtx 18446744073709551616 [] = [49, 56, 52, 52, 54, 55, 52, 52, 48, 55, 51, 55, 48, 57, 53, 53, 49, 54, 49, 54] := by
  iterate 19 rw [dtx_no (by decide)]
  rw [dtx_yes (by decide)]

theorem str64 : strOf (45 :: dtx 18446744073709551616 []) = ⟨#[45, 49, 56, 52, 52, 54, 55, 52, 52, 48, 55, 51, 55, 48, 57, 53, 53, 49, 54, 49, 54]⟩ := by rw [dtx64]; rfl

set_option maxHeartbeats 800000 in
theorem alive1_any (w : World) : Calls Try.prog 18 #[] w (Says w (.bool true)) := by
  have HM := hide (fun w => WMul_any 4611686018427387904 4 (by omega) (by omega) w)
  have HT := hide (fun w => Text_neg (-1) 0 18446744073709551616 (by unfold Num; omega) (by omega) (by omega) w)
  go_enter Try.func18, Try.ntmps18
  go_wp2_with fail
  refine (HM.out _).mono ?_
  rintro e w1 ⟨h1, l1, rfl, hN, hb⟩
  obtain ⟨rfl, rfl⟩ : h1 = 1 ∧ l1 = 0 := by unfold Num at hN; omega
  have HB := hide hb
  clear hN hb
  go_wp2_with fail
  refine (HT.out _).mono ?_
  rintro e w2 ⟨rfl, hb2⟩
  have HB2 := hide hb2
  clear hb2
  rw [str64]
  go_wp2_with fail
  trace_state
  go_ret
  exact ⟨rfl, HB.out.trans (HB2.out.mono HB.out.size)⟩

end Go.Proofs.Ytoaaecggfaaplaa
