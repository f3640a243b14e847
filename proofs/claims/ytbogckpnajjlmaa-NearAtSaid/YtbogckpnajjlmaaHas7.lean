/-
Contracts of package img's has and place, and of the reference's Place. No statement is proved here.
-/
import Derived.Test.YtbogckpnajjlmaaImg2
import Derived.Test.YtbogckpnajjlmaaImg4
import Derived.Test.YtbogckpnajjlmaaDiff0
import Derived.IntWalk
namespace Go.Proofs.Ytbogckpnajjlmaa
open Go.RowKit

/-- whether a right image has a channel of a pixel -/
def hasP (x y c n a b k : Int) : Prop := checkZ x y c n = 0 ∧ 0 ≤ a ∧ a < x ∧ 0 ≤ b ∧ b < y ∧ 0 ≤ k ∧ k < c
instance (x y c n a b k : Int) : Decidable (hasP x y c n a b k) := by unfold hasP; infer_instance
/-- where it stands -/
def atZ (x c a b k : Int) : Int := (b * x + a) * c + k
theorem check_zero {x y c n : Int} (h : checkZ x y c n = 0) : fitsZ x y c = 0 ∧ n = x * y * c := by
  unfold checkZ at h
  by_cases f : fitsZ x y c = 0
  · rw [if_pos f] at h
    by_cases q : n = x * y * c
    · exact ⟨f, q⟩
    · rw [if_neg q] at h; omega
  · rw [if_neg f] at h; exact absurd h f
theorem has_in {x y c n a b k : Int} (h : hasP x y c n a b k) : (0 ≤ b * x ∧ b * x ≤ 4194304) ∧ (0 ≤ b * x + a ∧ b * x + a ≤ 4194304) ∧ (0 ≤ (b * x + a) * c ∧ (b * x + a) * c + c ≤ n) ∧ n ≤ 16777216 := by
  obtain ⟨h0, h1, h2, h3, h4, h5, h6⟩ := h
  obtain ⟨f, hn⟩ := check_zero h0
  obtain ⟨fc, ⟨x1, x2⟩, ⟨y1, y2⟩, p1, p2⟩ := fits_zero f
  have e1 : (b + 1) * x ≤ y * x := Int.mul_le_mul_of_nonneg_right (by omega) (by omega)
  have e2 : (b + 1) * x = b * x + x := by rw [Int.add_mul, Int.one_mul]
  have e3 : y * x = x * y := Int.mul_comm _ _
  have e4 : 0 ≤ b * x := Int.mul_nonneg h3 (by omega)
  have e5 : (b * x + a + 1) * c ≤ (x * y) * c := Int.mul_le_mul_of_nonneg_right (by omega) (by omega)
  have e6 : (b * x + a + 1) * c = (b * x + a) * c + c := by rw [Int.add_mul, Int.one_mul]
  have e7 : 0 ≤ (b * x + a) * c := Int.mul_nonneg (by omega) (by omega)
  have e8 : x * y * c ≤ 16777216 := by rcases fc with rfl | rfl | rfl <;> omega
  exact ⟨⟨e4, by omega⟩, ⟨by omega, by omega⟩, ⟨e7, by omega⟩, by omega⟩

set_option maxHeartbeats 1000000 in
theorem place_any (x y c : Int) (A : Option Addr) (n cap : Nat) (a b k : Int) (w : World) (h : hasP x y c n a b k) : Calls Try.prog 75 #[.agg #[.int .i64 x, .int .i64 y, .int .i64 c, .slice A n cap], .int .i64 a, .int .i64 b] w (Says w (.int .i64 ((b * x + a) * c))) := by
  have H0 := below_alloc w (.cells #[.int .i64 x, .int .i64 y, .int .i64 c, .slice A n cap] 24)
  have B0 := Bx.at (w := w) (g := w.heap.size) [.int .i64 x, .int .i64 y, .int .i64 c, .slice A n cap] 24 rfl
  have e0 : [Value.int .i64 x, .int .i64 y, .int .i64 c, .slice A n cap].toArray = #[Value.int .i64 x, .int .i64 y, .int .i64 c, .slice A n cap] := rfl
  rw [e0] at B0
  obtain ⟨_, a0, a1, a2, a3, _, _, _, _⟩ := B0.four
  have HL0 := hide H0
  have HB0 := hide B0
  clear B0 H0
  obtain ⟨⟨p1, p2⟩, ⟨q1, q2⟩, ⟨r1, r2⟩, n1⟩ := has_in h
  obtain ⟨_, _, _, _, _, k1, k2⟩ := h
  have w1 : IntKind.i64.wrap (b * x) = b * x := IntWalk.i64_in _ (by omega)
  have w2 : IntKind.i64.wrap (b * x + a) = b * x + a := IntWalk.i64_in _ (by omega)
  have w3 : IntKind.i64.wrap ((b * x + a) * c) = (b * x + a) * c := IntWalk.i64_in _ (by omega)
  clear p1 p2 q1 q2 r1 r2 n1 k1 k2
  go_enter Try.func75, Try.ntmps75
  go_wp2_with fail
  go_ret
  exact ⟨rfl, HL0.out⟩

end Go.Proofs.Ytbogckpnajjlmaa
