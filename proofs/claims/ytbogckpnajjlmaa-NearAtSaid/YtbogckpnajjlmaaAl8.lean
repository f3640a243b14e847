/-
Contract of layer 8's fixed facts. No statement is proved here.
-/
import Derived.Test.YtbogckpnajjlmaaBord2
namespace Go.Proofs.Ytbogckpnajjlmaa
open Go.RowKit

theorem alive8_any (w : World) : Calls Try.prog 20 #[] w (Says w (.bool true)) := by
  have H1 := hide (fun w => Index_any 3 (-1) 3 (by omega) (by omega) w)
  have H2 := hide (fun w => Index_any 3 5 3 (by omega) (by omega) w)
  have H3 := hide (fun w => Index_any 2 (-1) 3 (by omega) (by omega) w)
  rw [show idxV 3 (-1) 3 = 0 by decide, show idxB 3 (-1) 3 = true by decide] at H1
  rw [show idxV 3 5 3 = 0 by decide, show idxB 3 5 3 = true by decide] at H2
  rw [show idxV 2 (-1) 3 = 2 by decide, show idxB 2 (-1) 3 = true by decide] at H3
  go_enter Try.func20, Try.ntmps20
  go_wp2_with fail
  refine (H1.out _).mono ?_
  rintro e w1 ⟨rfl, hb⟩
  have B1 := hide hb
  clear hb
  go_wp2_with fail
  refine (H2.out _).mono ?_
  rintro e w2 ⟨rfl, hb⟩
  have B2 := hide (B1.out.trans (hb.mono B1.out.size))
  clear hb
  go_wp2_with fail
  refine (H3.out _).mono ?_
  rintro e w3 ⟨rfl, hb⟩
  have B3 := hide (B2.out.trans (hb.mono B2.out.size))
  clear hb
  go_wp2_with fail
  go_ret
  exact ⟨rfl, B3.out⟩

end Go.Proofs.Ytbogckpnajjlmaa
