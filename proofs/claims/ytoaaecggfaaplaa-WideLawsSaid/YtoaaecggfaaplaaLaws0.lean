/-
Numbers of 128 bits by their value alone: sums, differences, products. No statement is proved here.
-/
import Derived.Test.YtoaaecggfaaplaaScale
import Derived.Test.YtoaaecggfaaplaaAlive1
namespace Go.Proofs.Ytoaaecggfaaplaa
open Go.RowKit

def hiZ (z : Int) : Int := z / 18446744073709551616
def loZ (z : Int) : Int := z % 18446744073709551616
def inW (z : Int) : Prop := -170141183460469231731687303715884105728 ≤ z ∧ z < 170141183460469231731687303715884105728
instance (z : Int) : Decidable (inW z) := by unfold inW; infer_instance
def fitW (z : Int) : Bool := decide (inW z)
def cutW (z : Int) : Int := if inW z then z else 0
theorem num_canon {hi : Int} {lo : Nat} {z : Int} (h : Num hi lo z) : hi = hiZ z ∧ (lo : Int) = loZ z ∧ inW z := by
  unfold Num at h
  unfold hiZ loZ inW
  omega
theorem canon_num {z : Int} (h : inW z) : ∃ lo : Nat, (lo : Int) = loZ z ∧ Num (hiZ z) lo z := by
  unfold inW at h
  refine ⟨(z % 18446744073709551616).toNat, ?_, ?_⟩
  · unfold loZ; omega
  · unfold Num hiZ; omega
theorem tol_canon {w : World} {z : Int} {e : Ending} {w' : World} (h : TolPost w z e w') : Says w (.tuple #[.agg #[.int .i64 (hiZ (cutW z)), .int .u64 (loZ (cutW z))], .bool (fitW z)]) e w' := by
  obtain ⟨hi, lo, b, rfl, ht, hb⟩ := h
  refine ⟨?_, hb⟩
  rcases ht with ⟨rfl, hn⟩ | ⟨rfl, rfl, rfl, hz⟩
  · obtain ⟨e1, e2, e3⟩ := num_canon hn
    have q1 : fitW z = true := decide_eq_true e3
    have q2 : cutW z = z := if_pos e3
    rw [q1, q2, ← e1, ← e2]
  · have e3 : ¬ inW z := by unfold inW; omega
    have q1 : fitW z = false := decide_eq_false e3
    have q2 : cutW z = 0 := if_neg e3
    rw [q1, q2]
    rfl
theorem LAdd (a b : Int) (ha : inW a) (hb : inW b) (w : World) : Calls Try.prog 9 #[.agg #[.int .i64 (hiZ a), .int .u64 (loZ a)], .agg #[.int .i64 (hiZ b), .int .u64 (loZ b)]] w (Says w (.tuple #[.agg #[.int .i64 (hiZ (cutW (a + b))), .int .u64 (loZ (cutW (a + b)))], .bool (fitW (a + b))])) := by
  obtain ⟨l1, e1, n1⟩ := canon_num ha
  obtain ⟨l2, e2, n2⟩ := canon_num hb
  rw [← e1, ← e2]
  exact (WAdd_tol _ _ _ _ a b n1 n2 w).mono fun _ _ h => tol_canon h
theorem LSub (a b : Int) (ha : inW a) (hb : inW b) (w : World) : Calls Try.prog 10 #[.agg #[.int .i64 (hiZ a), .int .u64 (loZ a)], .agg #[.int .i64 (hiZ b), .int .u64 (loZ b)]] w (Says w (.tuple #[.agg #[.int .i64 (hiZ (cutW (a - b))), .int .u64 (loZ (cutW (a - b)))], .bool (fitW (a - b))])) := by
  obtain ⟨l1, e1, n1⟩ := canon_num ha
  obtain ⟨l2, e2, n2⟩ := canon_num hb
  rw [← e1, ← e2]
  exact (WSub_tol _ _ _ _ a b n1 n2 w).mono fun _ _ h => tol_canon h
theorem LScale (a x : Int) (ha : inW a) (hx : -9223372036854775808 ≤ x ∧ x ≤ 9223372036854775807) (w : World) : Calls Try.prog 19 #[.agg #[.int .i64 (hiZ a), .int .u64 (loZ a)], .int .i64 x] w (Says w (.tuple #[.agg #[.int .i64 (hiZ (cutW (a * x))), .int .u64 (loZ (cutW (a * x)))], .bool (fitW (a * x))])) := by
  obtain ⟨l1, e1, n1⟩ := canon_num ha
  rw [← e1]
  exact (WScale_tol _ _ a x n1 hx w).mono fun _ _ h => tol_canon h
theorem neq_wide (h l : Int) (w : World) : (binOp .neq 24 (.agg #[.int .i64 h, .int .u64 l]) (.agg #[.int .i64 h, .int .u64 l])).run Try.prog w = Result.ok (.bool false) w := by
  simp [go_sem]
theorem cutW_in (z : Int) : inW (cutW z) := by
  unfold cutW
  split
  · assumption
  · unfold inW; omega
theorem fit_cut {z : Int} (h : fitW z = true) : cutW z = z := if_pos (of_decide_eq_true h)

end Go.Proofs.Ytoaaecggfaaplaa
