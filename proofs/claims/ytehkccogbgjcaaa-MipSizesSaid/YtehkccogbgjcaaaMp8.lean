/-
MipSizes' walk; the chapter's examples. No statement is proved here.
-/
import Derived.Test.YtehkccogbgjcaaaMp3
import Derived.Test.YtehkccogbgjcaaaMp5
import Derived.Test.YtehkccogbgjcaaaMp7
namespace Go.Proofs.Ytehkccogbgjcaaa
open Go.RowKit

set_option maxRecDepth 100000 in
set_option maxHeartbeats 4000000 in
theorem alive31_any (w : World) : Calls Try.prog 40 #[] w (Says w (.bool true)) := by
  have HS := hide (fun w => Size_any 5 3 1 w)
  rw [show sizeW 5 3 1 = 3 by decide, show sizeH 5 3 1 = 2 by decide] at HS
  have HH := hide (Half_one w.heap.size _ (Bx.new w [.int .u8 1, .int .u8 2] 5))
  have H0 := hide (below_alloc w (.cells #[.int .u8 1, .int .u8 2] 5))
  go_enter Try.func40, Try.ntmps40
  go_wp2_with fail
  refine (HS.out _).mono ?_
  rintro e w1 ⟨rfl, rfl⟩
  go_wp2_with fail
  refine Calls.mono HH.out ?_
  rintro e w2 ⟨g, rfl, hbx, hb⟩
  have L2 := hide ((H0.out.trans (hb.mono H0.out.size)).alloc (H0.out.trans (hb.mono H0.out.size)).size (.cells #[.int .i64 1, .int .i64 1, .int .i64 1, .slice (some ⟨g, 0, none⟩) 1 1] 72))
  obtain ⟨hg, c0, _⟩ := hbx.one
  clear hb
  go_wp2_with fail
  go_ret
  exact ⟨rfl, L2.out⟩
set_option maxHeartbeats 2000000 in
theorem MipSizes_walk (x y k : Int) (w : World) : Calls Try.prog 9 #[.int .i64 x, .int .i64 y, .int .i64 k] w (Says w (.bool true)) := by
  have H1 := hide (Size_any x y k w)
  have H2 := hide (RSize_any x y k w)
  have H3 := hide (Count_any x y k w)
  have H4 := hide (RCount_any x y k w)
  have HA := hide (alive31_any w)
  generalize sizeW x y k = p at *
  generalize sizeH x y k = q at *
  generalize countZ x y k = r at *
  go_enter Try.func9, Try.ntmps9
  go_wp2_with fail
  refine H1.out.mono ?_
  rintro e w1 ⟨rfl, rfl⟩
  go_wp2_with fail
  refine H2.out.mono ?_
  rintro e w1 ⟨rfl, rfl⟩
  go_wp2_with fail
  refine H3.out.mono ?_
  rintro e w1 ⟨rfl, rfl⟩
  go_wp2_with fail
  refine H4.out.mono ?_
  rintro e w1 ⟨rfl, rfl⟩
  go_wp2_with fail
  refine HA.out.mono ?_
  rintro e w1 ⟨rfl, hb⟩
  have HB := hide hb
  clear hb
  go_wp2_with fail
  go_ret
  exact ⟨rfl, HB.out⟩
end Go.Proofs.Ytehkccogbgjcaaa
