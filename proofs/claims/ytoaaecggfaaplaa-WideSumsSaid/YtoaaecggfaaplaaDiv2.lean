/-
Contract of math/bits.Div64. No statement is proved here.
-/
import Derived.Test.YtoaaecggfaaplaaWid1
import Derived.Test.YtoaaecggfaaplaaDiv
import Derived.Shelf.Small.Bits
namespace Go.Proofs.Ytoaaecggfaaplaa
open Go.RowKit

def lays129_ren : Go.Shelf.Ren := ⟨fun | 129 => 56 | n => n, fun | 53 => 22 | 3 => 3 | 4 => 4 | 46 => 65 | 5 => 5 | 9 => 9 | n => n, fun | n => n⟩
theorem lays129 : Go.Proofs.Lays.n129 Try.prog lays129_ren := {
  mixed := by kernel_rfl
  f129 := Try.func56.trans (congrArg some (by kernel_rfl))
  t3 := Try.underlying3
  a3 := Try.isAgg3
  z3 := Try.sizeOf3
  v3 := Try.zeroValue3
  t4 := Try.underlying4
  a4 := Try.isAgg4
  z4 := Try.sizeOf4
  v4 := Try.zeroValue4
  t5 := Try.underlying5
  a5 := Try.isAgg5
  z5 := Try.sizeOf5
  v5 := Try.zeroValue5
  t9 := Try.underlying9
  a9 := Try.isAgg9
  z9 := Try.sizeOf9
  v9 := Try.zeroValue9
  t46 := Try.underlying65
  a46 := Try.isAgg65
  z46 := Try.sizeOf65
  v46 := Try.zeroValue65
  t53 := Try.underlying22
  a53 := Try.isAgg22
  z53 := Try.sizeOf22
  v53 := Try.zeroValue22 }
theorem Len64_any (x : Int) (w : World) (h0 : 0 ≤ x) (h1 : x ≤ 18446744073709551615) :
    Calls Try.prog 56 #[.int .u64 x] w fun e w' => e = .returned (.int .i64 (Lib.bitLen x.toNat)) ∧ w' = w := Any.bits_Len64 lays129 x w h0 h1

set_option maxHeartbeats 400000 in
theorem Lead_any (x s : Nat) (w : World) (h1 : (x : Int) ≤ 18446744073709551615) (hs : (s : Int) = 64 - (Lib.bitLen x : Int)) :
    Calls Try.prog 55 #[.int .u64 x] w fun e w' => e = .returned (.int .i64 (s : Int)) ∧ w = w' := by
  have hb : (Lib.bitLen x : Int) ≤ 64 := by omega
  have hb0 : (0 : Int) ≤ (Lib.bitLen x : Int) := by omega
  have HS := Lib.hid hs
  clear hs
  go_enter Try.func55, Try.ntmps55
  go_wp2_with (go_at_call 56; refine (Len64_any _ _ (by omega) h1).mono ?_; rintro e w' ⟨rfl, rfl⟩; rw [Int.toNat_natCast])
  go_ret
  exact ⟨by rw [HS.out]; rfl, rfl⟩

/-- what Div64 leaves: the quotient and what is left; memory as it was -/
def DivPost (w : World) (q r : Nat) (e : Ending) (w' : World) : Prop := e = .returned (.tuple #[.int .u64 (q : Int), .int .u64 (r : Int)]) ∧ Bel w w'

set_option maxHeartbeats 400000 in
theorem Div64_low (lo y : Nat) (w : World) (h1 : (lo : Int) ≤ 18446744073709551615) (h2 : (y : Int) ≤ 18446744073709551615) (hy : 0 < y) :
    Calls Try.prog 54 #[.int .u64 0, .int .u64 lo, .int .u64 y] w (DivPost w (lo / y) (lo % y)) := by
  have hy1 : ((y : Int) == 0) = false := by rw [beq_eq_false_iff_ne]; omega
  have hy2 : decide ((y : Int) ≤ 0) = false := by rw [decide_eq_false_iff_not]; omega
  have HW := Lib.hid (show IntKind.u64.wrap ((lo : Int) / (y : Int)) = ((lo / y : Nat) : Int) by
    have h3 : lo / y ≤ lo := Nat.div_le_self _ _
    rw [IntKind.wrap_u64, ← Int.natCast_ediv]
    generalize lo / y = q at *
    omega)
  have H := hide (fun n : Nat => (show Bel w (w.drewN n) from below_drewN (Below.refl _ _) n))
  go_enter Try.func54, Try.ntmps54
  go_wp2_with fail
  go_quiet (fail)
  go_wp2_with fail
  go_ret2
  exact ⟨by simp only [HW.out]; rfl, H.out _⟩


end Go.Proofs.Ytoaaecggfaaplaa
