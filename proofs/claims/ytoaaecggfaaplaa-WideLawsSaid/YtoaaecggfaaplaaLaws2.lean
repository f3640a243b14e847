/-
The law WideLaws: its walk, whatever comes. No statement is proved here.
-/
import Derived.Test.YtoaaecggfaaplaaLaws1
namespace Go.Proofs.Ytoaaecggfaaplaa
open Go.RowKit

theorem WideLaws_walk (h1 h2 h3 : Int) (l1 l2 l3 : Nat) (a b c x : Int) (ha : Num h1 l1 a) (hb : Num h2 l2 b) (hc : Num h3 l3 c) (hx : -9223372036854775808 ≤ x ∧ x ≤ 9223372036854775807) (w : World) :
    Calls Try.prog 7 #[.agg #[.int .i64 h1, .int .u64 l1, .int .i64 h2, .int .u64 l2, .int .i64 h3, .int .u64 l3, .int .i64 x]] w (Says w (.bool true)) := by
  obtain ⟨rfl, e1, wa⟩ := num_canon ha
  obtain ⟨rfl, e2, wb⟩ := num_canon hb
  obtain ⟨rfl, e3, wc⟩ := num_canon hc
  rw [e1, e2, e3]
  refine Laws_any (hiZ a) (loZ a) (hiZ b) (loZ b) (hiZ c) (loZ c) x (hiZ (cutW (a + b))) (loZ (cutW (a + b))) (hiZ (cutW (cutW (a + b) + c))) (loZ (cutW (cutW (a + b) + c))) (hiZ (cutW (b + c))) (loZ (cutW (b + c)))
    (hiZ (cutW (a * x))) (loZ (cutW (a * x))) (hiZ (cutW (b * x))) (loZ (cutW (b * x))) (hiZ (cutW (cutW (a + b) * x))) (loZ (cutW (cutW (a + b) * x))) (fitW (a + b)) (fitW (cutW (a + b) + c)) (fitW (b + c)) (fitW (a * x)) (fitW (b * x)) (fitW (cutW (a + b) * x)) w
    (fun w => LAdd a b wa wb w) (fun w => ?_) (fun q w => ?_) (fun w => LAdd _ c (cutW_in _) wc w) (fun w => LAdd b c wb wc w) (fun q1 q4 q5 w => ?_) (fun w => LScale a x wa hx w) (fun w => LScale b x wb hx w) (fun w => LScale _ x (cutW_in _) hx w) (fun q1 qi qk qn w => ?_)
  · have := LAdd b a wb wa w
    rwa [Int.add_comm b a] at this
  · have := LSub (cutW (a + b)) b (cutW_in _) wb w
    have e4 : cutW (a + b) - b = a := by rw [fit_cut q]; omega
    have e5 : cutW a = a := if_pos wa
    have e6 : fitW a = true := decide_eq_true wa
    rw [e4, e5, e6] at this
    exact this
  · have := LAdd a (cutW (b + c)) wa (cutW_in _) w
    have e4 : a + cutW (b + c) = cutW (a + b) + c := by rw [fit_cut q1, fit_cut q5]; omega
    rw [e4, q4] at this
    exact this
  · have := LAdd (cutW (a * x)) (cutW (b * x)) (cutW_in _) (cutW_in _) w
    have e4 : cutW (a * x) + cutW (b * x) = cutW (a + b) * x := by rw [fit_cut qi, fit_cut qk, fit_cut q1, Int.add_mul]
    rw [e4, qn] at this
    exact this

end Go.Proofs.Ytoaaecggfaaplaa
