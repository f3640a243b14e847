/-
Lenses: the chapter's example. No statement is proved here.
-/
import Derived.Test.YtgcnmffbhjlolaaLen10
namespace Go.Proofs.Ytgcnmffbhjlolaa
open Go.RowKit

def exL : Ln := ⟨0, 0, 1, 0, 0, 0, 0⟩
theorem exL_zero : lensE [0, 0, 1, 0, 0, 0, 0] 4 4 = 0 := by decide +kernel
theorem exL_u : atU exL 131072 196608 = 131072 := by decide +kernel
theorem exL_v : atV exL 131072 196608 = 196608 := by decide +kernel
theorem exL_x : asideZ 2 1 0 1 = 131072 := by decide +kernel
theorem exL_y : asideZ 3 1 0 1 = 196608 := by decide +kernel
theorem exL_sees : RightZ 2 3 1 ∧ exL.sees 2 3 1 := by decide +kernel

set_option maxHeartbeats 1000000 in
theorem alive20_any (w : World) : Calls Try.prog 14 #[] w (Says w (.bool true)) := by
  have H1 := hide (fun (w : World) (A : Option Addr) (n c : Nat) (h : IY w A n c [0, 0, 1, 0, 0, 0, 0]) => New_any A n c [0, 0, 1, 0, 0, 0, 0] 4 4 w h)
  have HA := hide (fun (g : Nat) (w : World) (h : Bx w g exL.cells) => (At_any g exL 2 3 1 w h ⟨by decide, by decide, by decide, by decide⟩ ⟨by decide, by decide⟩ ⟨by decide, by decide⟩))
  rw [if_pos exL_sees, show exL.cx = 0 from rfl, show exL.cy = 0 from rfl, show exL.f = 1 from rfl, exL_x, exL_y, exL_u, exL_v] at HA
  have HI := hide (fun (w : World) (g : Nat) (h : Bx w g [.int .i64 0, .int .i64 0, .int .i64 1, .int .i64 0, .int .i64 0, .int .i64 0, .int .i64 0]) => IY.own (xs := [0, 0, 1, 0, 0, 0, 0]) h (by intro z hz; simp at hz; unfold isI64; omega) 7 (Nat.le_refl 7) (by decide))
  have HB := hide (below_alloc w)
  go_enter Try.func14, Try.ntmps14
  go_wp2_with fail
  refine Calls.mono (H1.out _ _ _ _ (HI.out _ _ (Bx.at [.int .i64 0, .int .i64 0, .int .i64 1, .int .i64 0, .int .i64 0, .int .i64 0, .int .i64 0] _ rfl))) ?_
  rintro e w1 ⟨hb, ⟨_, l, g, hl, _, rfl, hx⟩ | ⟨h0, _⟩⟩
  · obtain rfl : l = exL := by
      obtain ⟨a, b, c, d, e, f, g⟩ := l
      simp [Ln.list] at hl
      obtain ⟨rfl, rfl, rfl, rfl, rfl, rfl, rfl⟩ := hl
      rfl
    have HX := hide hx
    have HB1 := hide ((HB.out _).trans (hb.mono (HB.out _).size))
    clear hb hx hl
    go_wp2_with fail
    refine (HA.out g _ HX.out).mono ?_
    rintro e w2 ⟨rfl, hb⟩
    have HB2 := hide (HB1.out.trans (hb.mono HB1.out.size))
    clear hb
    go_wp2_with fail
    go_ret
    exact ⟨rfl, HB2.out⟩
  · exact absurd exL_zero h0

/-- the world behind the parameters' boxes of a law of one image's size and one place -/
theorem lens_pos {sw d : Int} (h1 : 1 ≤ sw) (h2 : sw ≤ 32768) (h3 : 1 ≤ d) (h4 : d ≤ 16) : 0 ≤ (2 * sw - 1) * d ∧ (2 * sw - 1) * d ≤ 1048560 :=
  ⟨Int.mul_nonneg (by omega) (by omega), by
    have : (2 * sw - 1) * d ≤ 65535 * 16 := Int.mul_le_mul (by omega) h4 (by omega) (by omega)
    omega⟩
end Go.Proofs.Ytgcnmffbhjlolaa
