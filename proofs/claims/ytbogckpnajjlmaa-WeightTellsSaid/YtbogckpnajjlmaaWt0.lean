/-
Contracts of the reference of layer 27: Linear and Cubic. No statement is proved here.
-/
import Derived.Test.YtbogckpnajjlmaaWei1
namespace Go.Proofs.Ytbogckpnajjlmaa
open Go.RowKit

theorem rcub_run : ∀ n : Fin 257, wrap64 (wrap64 (wrap64 (wrap64 (wrap64 (-(n.val : Int)) * (n.val : Int)) * (n.val : Int)) + wrap64 (wrap64 (512 * (n.val : Int)) * (n.val : Int))) - wrap64 (65536 * (n.val : Int))) = outerZ (n.val : Int) ∧ wrap64 (wrap64 (wrap64 (wrap64 (wrap64 (3 * (n.val : Int)) * (n.val : Int)) * (n.val : Int)) - wrap64 (wrap64 (1280 * (n.val : Int)) * (n.val : Int))) + 33554432) = innerZ (n.val : Int) ∧ wrap64 (wrap64 (wrap64 (wrap64 (wrap64 (-3 * (n.val : Int)) * (n.val : Int)) * (n.val : Int)) + wrap64 (wrap64 (1024 * (n.val : Int)) * (n.val : Int))) + wrap64 (65536 * (n.val : Int))) = innerZ (256 - (n.val : Int)) ∧ wrap64 (wrap64 (wrap64 ((n.val : Int) * (n.val : Int)) * (n.val : Int)) - wrap64 (wrap64 (256 * (n.val : Int)) * (n.val : Int))) = outerZ (256 - (n.val : Int)) := by decide +kernel
/-- a slice of four numbers in a block of the call's own -/
def Sl4 (w : World) (p q r s : Int) (e : Ending) (w' : World) : Prop := ∃ g, e = .returned (.slice (some ⟨g, 0, none⟩) 4 4) ∧ Bx w' g [.int .i64 p, .int .i64 q, .int .i64 r, .int .i64 s] ∧ Below w.heap.size w w'
def Sl2 (w : World) (p q : Int) (e : Ending) (w' : World) : Prop := ∃ g, e = .returned (.slice (some ⟨g, 0, none⟩) 2 2) ∧ Bx w' g [.int .i64 p, .int .i64 q] ∧ Below w.heap.size w w'
theorem RLinear_any (f : Int) (h0 : 0 ≤ f) (h1 : f ≤ 65536) (w : World) : Calls Try.prog 24 #[.int .i64 f] w (Sl2 w (65536 - f) f) := by
  have HB := hide (below_alloc w)
  obtain ⟨a, ha⟩ : ∃ z, 65536 - f = z := ⟨_, rfl⟩
  have e1 : wrap64 (65536 - f) = a := by rw [← ha]; exact IntWalk.wrap64_in _ (by omega)
  have HX := hide (Bx.new w [.int .i64 a, .int .i64 f] 2)
  rw [ha]
  clear h0 h1 ha
  go_enter Try.func24, Try.ntmps24
  go_wp2_with fail
  go_ret
  exact ⟨_, rfl, HX.out, HB.out _⟩
set_option maxRecDepth 100000 in
set_option maxHeartbeats 4000000 in
theorem RCubic_any (t : Int) (h0 : 0 ≤ t) (h1 : t ≤ 256) (w : World) : Calls Try.prog 25 #[.int .i64 t] w (Sl4 w (outerZ t) (innerZ t) (innerZ (256 - t)) (outerZ (256 - t))) := by
  have HB := hide (below_alloc w)
  obtain ⟨R22, R42, R61, R72⟩ : wrap64 (wrap64 (wrap64 (wrap64 (wrap64 (-t) * t) * t) + wrap64 (wrap64 (512 * t) * t)) - wrap64 (65536 * t)) = outerZ t ∧ wrap64 (wrap64 (wrap64 (wrap64 (wrap64 (3 * t) * t) * t) - wrap64 (wrap64 (1280 * t) * t)) + 33554432) = innerZ t ∧ wrap64 (wrap64 (wrap64 (wrap64 (wrap64 (-3 * t) * t) * t) + wrap64 (wrap64 (1024 * t) * t)) + wrap64 (65536 * t)) = innerZ (256 - t) ∧ wrap64 (wrap64 (wrap64 (t * t) * t) - wrap64 (wrap64 (256 * t) * t)) = outerZ (256 - t) := by
    obtain ⟨n, rfl⟩ := fin_of h0 h1
    exact rcub_run n
  generalize outerZ t = p at *
  generalize innerZ t = q at *
  generalize innerZ (256 - t) = r at *
  generalize outerZ (256 - t) = s at *
  obtain ⟨a5, a7, a9, a13, a15, a16, a21, a24, a26, a28, a32, a34, a35, a44, a46, a48, a52, a54, a55, a64, a66, a69, a71, e5, e7, e9, e13, e15, e16, e21, e22, e24, e26, e28, e32, e34, e35, e42, e44, e46, e48, e52, e54, e55, e61, e64, e66, e69, e71, e72⟩ : ∃ a5 a7 a9 a13 a15 a16 a21 a24 a26 a28 a32 a34 a35 a44 a46 a48 a52 a54 a55 a64 a66 a69 a71, wrap64 (-t) = a5 ∧ wrap64 (a5 * t) = a7 ∧ wrap64 (a7 * t) = a9 ∧ wrap64 (512 * t) = a13 ∧ wrap64 (a13 * t) = a15 ∧ wrap64 (a9 + a15) = a16 ∧ wrap64 (65536 * t) = a21 ∧ wrap64 (a16 - a21) = p ∧ wrap64 (3 * t) = a24 ∧ wrap64 (a24 * t) = a26 ∧ wrap64 (a26 * t) = a28 ∧ wrap64 (1280 * t) = a32 ∧ wrap64 (a32 * t) = a34 ∧ wrap64 (a28 - a34) = a35 ∧ wrap64 (a35 + 33554432) = q ∧ wrap64 (-3 * t) = a44 ∧ wrap64 (a44 * t) = a46 ∧ wrap64 (a46 * t) = a48 ∧ wrap64 (1024 * t) = a52 ∧ wrap64 (a52 * t) = a54 ∧ wrap64 (a48 + a54) = a55 ∧ wrap64 (a55 + a21) = r ∧ wrap64 (t * t) = a64 ∧ wrap64 (a64 * t) = a66 ∧ wrap64 (256 * t) = a69 ∧ wrap64 (a69 * t) = a71 ∧ wrap64 (a66 - a71) = s := ⟨_, _, _, _, _, _, _, _, _, _, _, _, _, _, _, _, _, _, _, _, _, _, _, rfl, rfl, rfl, rfl, rfl, rfl, rfl, R22, rfl, rfl, rfl, rfl, rfl, rfl, R42, rfl, rfl, rfl, rfl, rfl, rfl, R61, rfl, rfl, rfl, rfl, R72⟩
  have HX := hide (Bx.new w [.int .i64 p, .int .i64 q, .int .i64 r, .int .i64 s] 2)
  clear h0 h1 R22 R42 R61 R72
  go_enter Try.func25, Try.ntmps25
  go_wp2_with fail
  go_ret
  exact ⟨_, rfl, HX.out, HB.out _⟩
end Go.Proofs.Ytbogckpnajjlmaa
