/-
Contract of the reference: Small; and of quot's quotients of 64 bits. No statement is proved here.
-/
import Derived.Test.YtbogckpnajjlmaaFlo3
namespace Go.Proofs.Ytbogckpnajjlmaa
open Go.RowKit

theorem small_neg {v : Nat} (h : (v : Int) ≤ 9223372036854775808) : wrap64 (-(IntKind.i64.wrap (v : Int))) = -(v : Int) := by
  by_cases e : (v : Int) = 9223372036854775808
  · rw [e]; unfold wrap64; decide
  · rw [IntWalk.i64_in (v : Int) (by omega), IntWalk.wrap64_in _ (by omega)]

set_option maxHeartbeats 600000 in
/-- the reference's Small: a number that fits 64 bits, told as such -/
theorem Small_any (N : Nat) (s : Bool) (A : Option Addr) (n c : Nat) (z : Int) (w : World) (h : BV w N s A n c z) (h1 : -9223372036854775808 ≤ z) (h2 : z ≤ 9223372036854775807) :
    Calls Try.prog 82 #[.agg #[.bool s, .slice A n c]] w (Says w (.int .i64 z)) := by
  obtain ⟨v, hN, hs, hz⟩ := h
  have hv : v < 18446744073709551616 := by cases s <;> simp at hz <;> omega
  have H := hide (unsigned_any N s A n c v _ (hN.below (below_alloc w (.cells #[.bool s, .slice A n c] 98))) hv)
  have H0 := hide (below_alloc w (.cells #[.bool s, .slice A n c] 98))
  obtain ⟨x, ex⟩ : ∃ x, IntKind.i64.wrap (v : Int) = x := ⟨_, rfl⟩
  have ez : (if s = true then wrap64 (-x) else x) = z := by
    cases s
    · simp at hz ⊢; rw [hz, ← ex, IntWalk.i64_in (v : Int) (by omega)]
    · simp at hz ⊢; rw [hz, ← ex]; exact small_neg (v := v) (by omega)
  clear hN hs hz hv h1 h2
  go_enter Try.func82, Try.ntmps82
  go_wp2_with fail
  refine H.out.mono ?_
  rintro e w1 ⟨rfl, hb1⟩
  have hb := H0.out.trans (hb1.mono (by simp))
  obtain ⟨hc, _⟩ := bcell hb1
  have hc0 : w1.cell? ⟨w.heap.size, 0, none⟩ = some (.bool s) := by rw [hc _ _ (by simp)]; simp [go_sem]
  clear hb1 hc
  cases s
  · simp at ez
    subst ez
    go_wp2_with fail
    go_ret
    exact ⟨rfl, hb⟩
  · simp at ez
    subst ez
    go_wp2_with fail
    go_ret
    exact ⟨rfl, hb⟩
end Go.Proofs.Ytbogckpnajjlmaa
