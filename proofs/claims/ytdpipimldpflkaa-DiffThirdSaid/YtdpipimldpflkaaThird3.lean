/-
The law DiffThird: its walk, whatever comes. No statement is proved here.
-/
import Derived.Test.YtdpipimldpflkaaThird2
namespace Go.Proofs.Ytdpipimldpflkaa
open Go.RowKit

theorem DiffThird_walk (x0 y0 c0 x1 y1 c1 x2 y2 c2 : Int) (A0 A1 A2 : Option Addr) (n0 p0 n1 p1 n2 p2 : Nat) (xs ys zs : List Int) (w : World) (h0 : BY w A0 n0 p0 xs) (h1 : BY w A1 n1 p1 ys) (h2 : BY w A2 n2 p2 zs) :
    Calls Try.prog 5 #[.agg #[.int .i64 x0, .int .i64 y0, .int .i64 c0, .slice A0 n0 p0], .agg #[.int .i64 x1, .int .i64 y1, .int .i64 c1, .slice A1 n1 p1], .agg #[.int .i64 x2, .int .i64 y2, .int .i64 c2, .slice A2 n2 p2]] w (Says w (.bool true)) := by
  by_cases k0 : (n0 : Int) ≤ 5000
  · by_cases k1 : dchkZ x0 y0 c0 n0 x1 y1 c1 n1 = 0
    · by_cases k2 : dchkZ x0 y0 c0 n0 x2 y2 c2 n2 = 0
      · obtain ⟨f, rfl, rfl, rfl, e0, e1⟩ := dchk_ok k1
        obtain ⟨_, rfl, rfl, rfl, _, e2⟩ := dchk_ok k2
        obtain rfl : n1 = n0 := by omega
        obtain rfl : n2 = n1 := by omega
        exact Third_in _ _ _ A0 A1 A2 _ p0 p1 p2 xs ys zs w h0 h1 h2 (by omega) k1
      · exact Third_out _ _ _ _ _ _ _ _ _ _ _ _ _ _ _ _ _ _ w (.inr (.inr k2))
    · exact Third_out _ _ _ _ _ _ _ _ _ _ _ _ _ _ _ _ _ _ w (.inr (.inl k1))
  · exact Third_out _ _ _ _ _ _ _ _ _ _ _ _ _ _ _ _ _ _ w (.inl (by simpa using k0))

end Go.Proofs.Ytdpipimldpflkaa
