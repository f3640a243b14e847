/-
Contracts of whether two images are the same: package img, and its reference. No statement is proved here.
-/
import Derived.Test.YtghnaocejbiidaaImg2
import Derived.Test.YtghnaocejbiidaaBytes
import Derived.LoopTactic
namespace Go.Proofs.Ytghnaocejbiidaa
open Go.RowKit

def sameB (x y c x' y' c' : Int) (xs ys : List Int) : Bool := decide (x = x' ∧ y = y' ∧ c = c' ∧ xs = ys)

set_option maxHeartbeats 1000000 in
theorem Same_any (x y c x' y' c' : Int) (A A' : Option Addr) (n cap n' cap' : Nat) (xs ys : List Int) (w : World) (h : BY w A n cap xs) (h' : BY w A' n' cap' ys) :
    Calls Try.prog 33 #[.agg #[.int .i64 x, .int .i64 y, .int .i64 c, .slice A n cap], .agg #[.int .i64 x', .int .i64 y', .int .i64 c', .slice A' n' cap']] w (Says w (.bool (sameB x y c x' y' c' xs ys))) := by
  have H := hide (below_alloc2 w)
  have HE := hide (fun o o' => Equal_any A A' n cap n' cap' xs ys _ (h.below (below_alloc2 w o o')) (h'.below (below_alloc2 w o o')))
  clear h h'
  by_cases e1 : x = x'
  · by_cases e2 : y = y'
    · by_cases e3 : c = c'
      · subst e1 e2 e3
        have hs : sameB x y c x y c xs ys = decide (xs = ys) := by simp [sameB]
        rw [hs]
        clear hs
        go_enter Try.func33, Try.ntmps33
        go_wp2_with fail
        refine (HE.out _ _).mono ?_
        rintro e w1 ⟨rfl, rfl⟩
        go_wp2_with fail
        go_ret
        exact ⟨rfl, H.out _ _⟩
      · have hs : sameB x y c x' y' c' xs ys = false := by simp [sameB, e3]
        rw [hs]
        have b3 : (c == c') = false := by simpa using e3
        clear hs e3
        go_enter Try.func33, Try.ntmps33
        subst e1 e2
        go_wp2_with fail
        go_ret
        exact ⟨rfl, H.out _ _⟩
    · have hs : sameB x y c x' y' c' xs ys = false := by simp [sameB, e2]
      rw [hs]
      have b3 : (y == y') = false := by simpa using e2
      subst e1
      clear hs e2
      go_enter Try.func33, Try.ntmps33
      go_wp2_with fail
      go_ret
      exact ⟨rfl, H.out _ _⟩
  · have hs : sameB x y c x' y' c' xs ys = false := by simp [sameB, e1]
    rw [hs]
    have b3 : (x == x') = false := by simpa using e1
    clear hs e1
    go_enter Try.func33, Try.ntmps33
    go_wp2_with fail
    go_ret
    exact ⟨rfl, H.out _ _⟩

end Go.Proofs.Ytghnaocejbiidaa
