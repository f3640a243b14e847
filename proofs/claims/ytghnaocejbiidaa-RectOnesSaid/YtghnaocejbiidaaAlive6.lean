/-
Contract of layer 6's fixed facts. The law RectOnes: its walk. No statement is proved here.
-/
import Derived.Test.YtghnaocejbiidaaGrow1
import Derived.Test.YtghnaocejbiidaaGrow2
namespace Go.Proofs.Ytghnaocejbiidaa
open Go.RowKit

theorem alive6_any (w : World) : Calls Try.prog 23 #[] w (Says w (.bool true)) := by
  have HB := hide (fun w => Both_any ⟨0, 0, 4, 4⟩ ⟨2, 1, 9, 3⟩ w)
  have HG := hide (fun w => Grow_any ⟨1, 1, 2, 2⟩ (-1) w)
  rw [show bothR ⟨0, 0, 4, 4⟩ ⟨2, 1, 9, 3⟩ = ⟨2, 1, 4, 3⟩ by decide] at HB
  rw [show growR ⟨1, 1, 2, 2⟩ (-1) = ⟨0, 0, 0, 0⟩ by decide] at HG
  have hq1 := fun w => eql_rect ⟨2, 1, 4, 3⟩ ⟨2, 1, 4, 3⟩ w
  have hq2 := fun w => eql_rect ⟨0, 0, 0, 0⟩ ⟨0, 0, 0, 0⟩ w
  rw [decide_eq_true rfl] at hq1 hq2
  simp only at hq1 hq2
  go_enter Try.func23, Try.ntmps23
  go_wp2_with fail
  refine (HB.out _).mono ?_
  rintro e w1 ⟨rfl, hb⟩
  have HB1 := hide hb
  clear hb
  go_wp2_with fail
  refine (HG.out _).mono ?_
  rintro e w2 ⟨rfl, hb⟩
  have HB2 := hide (HB1.out.trans (hb.mono HB1.out.size))
  clear hb
  go_wp2_with fail
  go_ret
  exact ⟨rfl, HB2.out⟩

end Go.Proofs.Ytghnaocejbiidaa
