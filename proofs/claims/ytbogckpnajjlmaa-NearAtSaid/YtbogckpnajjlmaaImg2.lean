/-
Contracts of what is wrong with an image: package img, and its reference. No statement is proved here.
-/
import Derived.Test.YtbogckpnajjlmaaImg1
namespace Go.Proofs.Ytbogckpnajjlmaa
open Go.RowKit

theorem prods_in {x y c : Int} (h : fitsZ x y c = 0) : IntKind.i64.wrap (x * y) = x * y ∧ IntKind.i64.wrap (x * y * c) = x * y * c ∧ 0 ≤ x * y * c ∧ x * y * c ≤ 16777216 := by
  obtain ⟨hc, _, _, h1, h2⟩ := fits_zero h
  have h3 : x * y * c ≤ 16777216 ∧ 0 ≤ x * y * c := by rcases hc with rfl | rfl | rfl <;> omega
  exact ⟨IntWalk.i64_in _ (by omega), IntWalk.i64_in _ (by omega), h3.2, h3.1⟩

set_option maxHeartbeats 1000000 in
theorem Check_any (x y c : Int) (A : Option Addr) (n cap : Nat) (w : World) : Calls Try.prog 38 #[.agg #[.int .i64 x, .int .i64 y, .int .i64 c, .slice A n cap]] w (Says w (.int .i64 (checkZ x y c n))) := by
  have H := hide (below_alloc w)
  have HS := hide (fun w => size_any x y c w)
  by_cases k : fitsZ x y c = 0
  · obtain ⟨e1, e2, _, _⟩ := prods_in k
    rw [k] at HS
    have hz : checkZ x y c n = if (n : Int) = x * y * c then 0 else 12 := by rw [checkZ, if_pos k]
    rw [hz]
    clear hz k
    by_cases q : (n : Int) = x * y * c
    all_goals
      go_enter Try.func38, Try.ntmps38
      go_wp2_with fail
      refine (HS.out _).mono ?_
      rintro e w1 ⟨rfl, rfl⟩
      go_wp2_with fail
      go_ret
      exact ⟨by simp, H.out _⟩
  · have hz : checkZ x y c n = fitsZ x y c := by rw [checkZ, if_neg k]
    rw [hz]
    clear hz
    obtain ⟨f, hf⟩ : ∃ f, fitsZ x y c = f := ⟨_, rfl⟩
    rw [hf] at HS k ⊢
    have k1 : (f != 0) = true := by simpa using k
    clear hf k
    go_enter Try.func38, Try.ntmps38
    go_wp2_with fail
    refine (HS.out _).mono ?_
    rintro e w1 ⟨rfl, rfl⟩
    go_wp2_with fail
    go_ret
    exact ⟨rfl, H.out _⟩
set_option maxHeartbeats 1000000 in
theorem RCheck_any (x y c : Int) (A : Option Addr) (n cap : Nat) (w : World) : Calls Try.prog 19 #[.agg #[.int .i64 x, .int .i64 y, .int .i64 c, .slice A n cap]] w (Says w (.int .i64 (checkZ x y c n))) := by
  have H := hide (below_alloc w)
  have HS := hide (fun w => Fits_any x y c w)
  by_cases k : fitsZ x y c = 0
  · obtain ⟨e1, e2, _, _⟩ := prods_in k
    rw [k] at HS
    have hz : checkZ x y c n = if (n : Int) = x * y * c then 0 else 12 := by rw [checkZ, if_pos k]
    rw [hz]
    clear hz k
    by_cases q : (n : Int) = x * y * c
    all_goals
      go_enter Try.func19, Try.ntmps19
      go_wp2_with fail
      refine (HS.out _).mono ?_
      rintro e w1 ⟨rfl, rfl⟩
      go_wp2_with fail
      go_ret
      exact ⟨by simp, H.out _⟩
  · have hz : checkZ x y c n = fitsZ x y c := by rw [checkZ, if_neg k]
    rw [hz]
    clear hz
    obtain ⟨f, hf⟩ : ∃ f, fitsZ x y c = f := ⟨_, rfl⟩
    rw [hf] at HS k ⊢
    have k1 : (f == 0) = false := by simpa using k
    clear hf k
    go_enter Try.func19, Try.ntmps19
    go_wp2_with fail
    refine (HS.out _).mono ?_
    rintro e w1 ⟨rfl, rfl⟩
    go_wp2_with fail
    go_ret
    exact ⟨rfl, H.out _⟩

theorem Few_any (x y c : Int) (A : Option Addr) (n cap : Nat) (m : Int) (w : World) : Calls Try.prog 10 #[.agg #[.int .i64 x, .int .i64 y, .int .i64 c, .slice A n cap], .int .i64 m] w (Says w (.bool (decide ((n : Int) ≤ m)))) := by
  have H := hide (below_alloc w)
  go_enter Try.func10, Try.ntmps10
  go_wp2_with fail
  go_ret
  exact ⟨rfl, H.out _⟩

end Go.Proofs.Ytbogckpnajjlmaa
