/-
The law DiffTells: its walk, whatever comes. No statement is proved here.
-/
import Derived.Test.YtbpnnjnkjbpmaaaTells1
namespace Go.Proofs.Ytbpnnjnkjbpmaaa
open Go.RowKit

theorem DiffTells_walk (x0 y0 c0 x1 y1 c1 b : Int) (A0 A1 : Option Addr) (n0 p0 n1 p1 : Nat) (xs ys : List Int) (w : World) (h0 : BY w A0 n0 p0 xs) (h1 : BY w A1 n1 p1 ys) :
    Calls Try.prog 3 #[.agg #[.int .i64 x0, .int .i64 y0, .int .i64 c0, .slice A0 n0 p0], .agg #[.int .i64 x1, .int .i64 y1, .int .i64 c1, .slice A1 n1 p1], .int .i64 b] w (Says w (.bool true)) := by
  by_cases k0 : (n0 : Int) ≤ 20000
  · by_cases k1 : (n1 : Int) ≤ 20000
    · by_cases k2 : dchkZ x0 y0 c0 n0 x1 y1 c1 n1 = 0
      · obtain ⟨_, rfl, rfl, rfl, _, _⟩ := dchk_ok k2
        obtain rfl : n1 = n0 := by omega
        exact Tells_in _ _ _ _ A0 A1 _ p0 p1 xs ys w h0 h1 (by omega) k2
      · exact Tells_err _ _ _ _ _ _ _ _ _ _ _ _ _ xs ys w h0 h1 k0 k1 k2
    · exact Tells_many _ _ _ _ _ _ _ _ _ _ _ _ _ xs ys w h0 h1 (.inr (by simpa using k1))
  · exact Tells_many _ _ _ _ _ _ _ _ _ _ _ _ _ xs ys w h0 h1 (.inl (by simpa using k0))

end Go.Proofs.Ytbpnnjnkjbpmaaa
