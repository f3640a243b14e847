/-
Contract of package diff's Within: whether no difference is greater. Apart of the reference. No statement is proved here.
-/
import Derived.Test.YtbpnnjnkjbpmaaaDiff2
import Derived.Test.YtbpnnjnkjbpmaaaDiff4
namespace Go.Proofs.Ytbpnnjnkjbpmaaa
open Go.RowKit

set_option maxHeartbeats 1000000 in
theorem Within_any (x y c x' y' c' b' : Int) (A A' : Option Addr) (n cap n' cap' : Nat) (w : World) (d : Df) (f : Int) (HO : ∀ w1, Below w.heap.size w w1 → Calls Try.prog 7 #[.agg #[.int .i64 x, .int .i64 y, .int .i64 c, .slice A n cap], .agg #[.int .i64 x', .int .i64 y', .int .i64 c', .slice A' n' cap']] w1 (DfTold w1 d f)) :
    Calls Try.prog 12 #[.agg #[.int .i64 x, .int .i64 y, .int .i64 c, .slice A n cap], .agg #[.int .i64 x', .int .i64 y', .int .i64 c', .slice A' n' cap'], .int .i64 b'] w (Says w (.bool (decide (f = 0 ∧ d.most ≤ b')))) := by
  have H0 := below_alloc2 w (.cells #[.int .i64 x, .int .i64 y, .int .i64 c, .slice A n cap] 24) (.cells #[.int .i64 x', .int .i64 y', .int .i64 c', .slice A' n' cap'] 24)
  have HO2 := hide (HO _ H0)
  have H := hide H0
  have hd := hide (show ∀ p q : Bool, (f == 0) = p → decide (d.most ≤ b') = q → decide (f = 0 ∧ d.most ≤ b') = (p && q) by
    rintro p q rfl rfl
    by_cases h1 : f = 0 <;> simp [h1])
  clear HO H0
  obtain ⟨r, hr⟩ : ∃ r, decide (f = 0 ∧ d.most ≤ b') = r := ⟨_, rfl⟩
  rw [hr] at hd ⊢
  clear hr
  by_cases h1 : f = 0
  · by_cases h2 : d.most ≤ b'
    all_goals
      subst h1
      have hr := hide (hd.out true _ rfl rfl)
      clear hd
      go_enter Try.func12, Try.ntmps12
      go_wp2_with fail
      refine HO2.out.mono ?_
      rintro e w1 ⟨rfl, hb⟩
      have L1 := hide ((H.out.trans (hb.mono (by simp; omega))).alloc (by have := hb.size; simp at this; omega) (.cells #[.int .i64 d.cnt, .int .i64 d.most, .int .u64 d.sum, .int .u64 d.sq, .int .i64 d.x, .int .i64 d.y, .int .i64 d.k] 28))
      clear hb
      go_wp2_with fail
      go_ret
      exact ⟨congrArg (fun b => Ending.returned (.bool b)) (by rw [hr.out]; simp [h2]), L1.out⟩
  · have e1 : (f == 0) = false := by simpa using h1
    have hr := hide (hd.out false _ e1 rfl)
    clear hd h1
    go_enter Try.func12, Try.ntmps12
    go_wp2_with fail
    refine HO2.out.mono ?_
    rintro e w1 ⟨rfl, hb⟩
    have L1 := hide ((H.out.trans (hb.mono (by simp; omega))).alloc (by have := hb.size; simp at this; omega) (.cells #[.int .i64 d.cnt, .int .i64 d.most, .int .u64 d.sum, .int .u64 d.sq, .int .i64 d.x, .int .i64 d.y, .int .i64 d.k] 28))
    clear hb
    go_wp2_with fail
    go_ret
    exact ⟨congrArg (fun b => Ending.returned (.bool b)) (by rw [hr.out]; rfl), L1.out⟩

theorem RApart_any (a b : Int) (ha : isByte a) (hb : isByte b) (w : World) : Calls Try.prog 15 #[.int .u8 a, .int .u8 b] w fun e w' => e = .returned (.int .i64 (absd a b)) ∧ w = w' := by
  obtain ⟨a1, a2⟩ := ha
  obtain ⟨b1, b2⟩ := hb
  by_cases h : b < a
  · have e : absd a b = a - b := by unfold absd; rw [if_neg (by omega)]
    rw [e]
    go_enter Try.func15, Try.ntmps15
    go_wp2_with fail
    go_ret
    exact ⟨rfl, rfl⟩
  · have e : absd a b = b - a := by unfold absd; rw [if_pos (by omega)]
    rw [e]
    go_enter Try.func15, Try.ntmps15
    go_wp2_with fail
    go_ret
    exact ⟨rfl, rfl⟩
end Go.Proofs.Ytbpnnjnkjbpmaaa
