/-
Contracts of an image that may not be made, of layer 7's fixed facts. No statement is proved here.
-/
import Derived.Test.YtfhjdghhgojbkaaImg4
namespace Go.Proofs.Ytfhjdghhgojbkaa
open Go.RowKit

/-- an image that is none, and a code -/
def NoImg (w : World) (f : Int) (e : Ending) (w' : World) : Prop := e = .returned (.tuple #[.agg #[.int .i64 0, .int .i64 0, .int .i64 0, .slice none 0 0], .int .i64 f]) ∧ Below w.heap.size w w'
theorem New_err (x y c : Int) (h : fitsZ x y c ≠ 0) (w : World) : Calls Try.prog 37 #[.int .i64 x, .int .i64 y, .int .i64 c] w (NoImg w (fitsZ x y c)) := by
  have H := hide (below_alloc w)
  have HS := hide (fun w => size_any x y c w)
  obtain ⟨f, hf⟩ : ∃ f, fitsZ x y c = f := ⟨_, rfl⟩
  rw [hf] at HS h ⊢
  have k1 : (f != 0) = true := by simpa using h
  clear hf h
  go_enter Try.func37, Try.ntmps37
  go_wp2_with fail
  refine (HS.out _).mono ?_
  rintro e w1 ⟨rfl, rfl⟩
  go_wp2_with fail
  refine bodyPost_ret (v := .tuple #[.agg #[.int .i64 0, .int .i64 0, .int .i64 0, .slice none 0 0], .int .i64 f]) (by simp [results, Try.results37, go_sem]) rfl ⟨rfl, ?_⟩
  exact H.out _

theorem alive7_any (w : World) : Calls Try.prog 35 #[] w (Says w (.bool true)) := by
  have H1 := hide (fun w => New_err 2 2 2 (by decide) w)
  have H2 := hide (fun w => New_err 40000 0 1 (by decide) w)
  rw [show fitsZ 2 2 2 = 10 by decide] at H1
  rw [show fitsZ 40000 0 1 = 30 by decide] at H2
  go_enter Try.func35, Try.ntmps35
  go_wp2_with fail
  refine (H1.out _).mono ?_
  rintro e w1 ⟨rfl, hb⟩
  have HB1 := hide (hb.alloc hb.size (.cells #[.int .i64 0, .int .i64 0, .int .i64 0, .slice none 0 0] 40))
  clear hb
  go_wp2_with fail
  refine (H2.out _).mono ?_
  rintro e w2 ⟨rfl, hb⟩
  have HB2 := hide (HB1.out.trans (hb.mono HB1.out.size))
  have HB3 := hide (HB2.out.alloc HB2.out.size (.cells #[.int .i64 0, .int .i64 0, .int .i64 0, .slice none 0 0] 40))
  clear hb
  go_wp2_with fail
  go_ret
  exact ⟨rfl, HB3.out⟩

end Go.Proofs.Ytfhjdghhgojbkaa
