/-
Contracts of weight.Split and of the reference's. No statement is proved here.
-/
import Derived.Test.YtehkccogbgjcaaaDown
import Derived.Test.YtehkccogbgjcaaaQuo0
namespace Go.Proofs.Ytehkccogbgjcaaa
open Go.RowKit

/-- whole pixels, rounded down; what is left -/
def spI (u : Int) : Int := Int.fdiv u 65536
def spF (u : Int) : Int := u - 65536 * spI u
theorem spF_bound (u : Int) : 0 ≤ spF u ∧ spF u < 65536 := by
  unfold spF spI
  rw [Int.fdiv_eq_ediv_of_nonneg _ (by decide)]
  omega
theorem spI_bound (u : Int) (h : isI64 u) : -140737488355328 ≤ spI u ∧ spI u ≤ 140737488355327 := by
  unfold isI64 at h
  unfold spI
  rw [Int.fdiv_eq_ediv_of_nonneg _ (by decide)]
  omega
theorem WSplit_any (u : Int) (w : World) (h : isI64 u) : Calls Try.prog 63 #[.int .i64 u] w fun e w' => e = .returned (.tuple #[.int .i64 (spI u), .int .i64 (spF u)]) ∧ w = w' := by
  unfold isI64 at h
  have H1 := hide (QFloor_any u 65536 w h (by decide) (by decide) (by omega))
  have H2 := hide (QMod_any u 65536 w (by decide) (by decide))
  have e1 : Int.fdiv u 65536 = spI u := rfl
  have e2 : u - Int.fdiv u 65536 * 65536 = spF u := by rw [Int.mul_comm]; rfl
  rw [e1] at H1
  rw [e2] at H2
  obtain ⟨x, hx⟩ : ∃ z, spI u = z := ⟨_, rfl⟩
  obtain ⟨y, hy⟩ : ∃ z, spF u = z := ⟨_, rfl⟩
  rw [hx] at H1 ⊢
  rw [hy] at H2 ⊢
  clear hx hy e1 e2 h
  go_enter Try.func63, Try.ntmps63
  go_wp2_with fail
  refine H1.out.mono ?_
  rintro e w1 ⟨rfl, rfl⟩
  go_wp2_with fail
  refine H2.out.mono ?_
  rintro e w1 ⟨rfl, rfl⟩
  go_wp2_with fail
  refine bodyPost_ret (v := .tuple #[.int .i64 x, .int .i64 y]) (by simp [results, Try.results63, go_sem]) rfl ⟨rfl, rfl⟩
theorem RSplit_any (u : Int) (w : World) (h : isI64 u) : Calls Try.prog 33 #[.int .i64 u] w fun e w' => e = .returned (.tuple #[.int .i64 (spI u), .int .i64 (spF u)]) ∧ w = w' := by
  have H := hide (Down_any u 65536 w h ⟨by decide, by decide⟩ (by decide) (by omega))
  have e1 : Int.fdiv u 65536 = spI u := rfl
  have hb := spI_bound u h
  have hf := spF_bound u
  have e2 : wrap64 (u - wrap64 (65536 * spI u)) = spF u := by
    unfold isI64 at h
    rw [IntWalk.wrap64_in (65536 * spI u) (by omega)]
    exact IntWalk.wrap64_in (u - 65536 * spI u) (by unfold spF at hf; omega)
  rw [e1] at H
  obtain ⟨x, hx⟩ : ∃ z, spI u = z := ⟨_, rfl⟩
  obtain ⟨y, hy⟩ : ∃ z, spF u = z := ⟨_, rfl⟩
  rw [hx] at H e2 ⊢
  rw [hy] at e2 ⊢
  clear hx hy e1 h hb hf
  go_enter Try.func33, Try.ntmps33
  go_wp2_with fail
  refine H.out.mono ?_
  rintro e w1 ⟨rfl, rfl⟩
  go_wp2_with fail
  refine bodyPost_ret (v := .tuple #[.int .i64 x, .int .i64 y]) (by simp [results, Try.results33, go_sem, e2]) rfl ⟨rfl, rfl⟩
end Go.Proofs.Ytehkccogbgjcaaa
