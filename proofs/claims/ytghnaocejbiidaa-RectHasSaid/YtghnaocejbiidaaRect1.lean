/-
Contracts of package rect and of its reference: right, empty, as all such, how many places. No statement is proved here.
-/
import Derived.Test.YtghnaocejbiidaaRows
import Derived.Test.YtghnaocejbiidaaKit
import Derived.Test.YtghnaocejbiidaaRect0
import Derived.BigQuiet
import Derived.Deep.QuietTactic
namespace Go.Proofs.Ytghnaocejbiidaa
open Go.RowKit

theorem near_any (x : Int) (w : World) : Calls Try.prog 47 #[.int .i64 x] w fun e w' => e = .returned (.bool (nearB x)) ∧ w = w' := by
  by_cases h1 : -2147483648 ≤ x
  · by_cases h2 : x ≤ 2147483648
    all_goals
      have e : nearB x = decide (x ≤ 2147483648) := by simp [nearB, h1]
      rw [e]
      go_enter Try.func47, Try.ntmps47
      go_wp2_with fail
      go_ret
      exact ⟨by simp [h2], rfl⟩
  · have e : nearB x = false := by simp [nearB]; omega
    rw [e]
    go_enter Try.func47, Try.ntmps47
    go_wp2_with fail
    go_ret
    exact ⟨rfl, rfl⟩
theorem in_any (x : Int) (w : World) : Calls Try.prog 48 #[.int .i64 x] w fun e w' => e = .returned (.bool (nearB x)) ∧ w = w' := by
  by_cases h1 : -2147483648 ≤ x
  · by_cases h2 : x ≤ 2147483648
    all_goals
      have e : nearB x = decide (x ≤ 2147483648) := by simp [nearB, h1]
      rw [e]
      go_enter Try.func48, Try.ntmps48
      go_wp2_with fail
      go_ret
      exact ⟨by simp [h2], rfl⟩
  · have e : nearB x = false := by simp [nearB]; omega
    rw [e]
    go_enter Try.func48, Try.ntmps48
    go_wp2_with fail
    go_ret
    exact ⟨rfl, rfl⟩

theorem Right_any (r : Rc) (w : World) : Calls Try.prog 13 #[.agg #[.int .i64 r.a, .int .i64 r.b, .int .i64 r.c, .int .i64 r.d]] w (Says w (.bool (rightB r))) := by
  have H := hide (below_alloc w)
  obtain ⟨g, hg⟩ : ∃ g, rightB r = g := ⟨_, rfl⟩
  have HG := Lib.hid hg
  rw [hg]
  clear hg
  cases h1 : nearB r.a
  · go_enter Try.func13, Try.ntmps13
    go_wp2_with (go_at_call 47; refine (near_any _ _).mono ?_; rintro e w' ⟨rfl, rfl⟩)
    go_ret
    exact ⟨by rw [← HG.out]; simp [rightB, h1], H.out _⟩
  · cases h2 : nearB r.b
    · go_enter Try.func13, Try.ntmps13
      go_wp2_with (go_at_call 47; refine (near_any _ _).mono ?_; rintro e w' ⟨rfl, rfl⟩)
      go_ret
      exact ⟨by rw [← HG.out]; simp [rightB, h1, h2], H.out _⟩
    · cases h3 : nearB r.c
      · go_enter Try.func13, Try.ntmps13
        go_wp2_with (go_at_call 47; refine (near_any _ _).mono ?_; rintro e w' ⟨rfl, rfl⟩)
        go_ret
        exact ⟨by rw [← HG.out]; simp [rightB, h1, h2, h3], H.out _⟩
      · go_enter Try.func13, Try.ntmps13
        go_wp2_with (go_at_call 47; refine (near_any _ _).mono ?_; rintro e w' ⟨rfl, rfl⟩)
        go_ret
        exact ⟨by rw [← HG.out]; simp [rightB, h1, h2, h3], H.out _⟩

theorem RRight_any (r : Rc) (w : World) : Calls Try.prog 14 #[.agg #[.int .i64 r.a, .int .i64 r.b, .int .i64 r.c, .int .i64 r.d]] w (Says w (.bool (rightB r))) := by
  have H := hide (below_alloc w)
  obtain ⟨g, hg⟩ : ∃ g, rightB r = g := ⟨_, rfl⟩
  have HG := Lib.hid hg
  rw [hg]
  clear hg
  cases h1 : nearB r.a
  · go_enter Try.func14, Try.ntmps14
    go_wp2_with (go_at_call 48; refine (in_any _ _).mono ?_; rintro e w' ⟨rfl, rfl⟩)
    go_ret
    exact ⟨by rw [← HG.out]; simp [rightB, h1], H.out _⟩
  · cases h2 : nearB r.b
    · go_enter Try.func14, Try.ntmps14
      go_wp2_with (go_at_call 48; refine (in_any _ _).mono ?_; rintro e w' ⟨rfl, rfl⟩)
      go_ret
      exact ⟨by rw [← HG.out]; simp [rightB, h1, h2], H.out _⟩
    · cases h3 : nearB r.c
      · go_enter Try.func14, Try.ntmps14
        go_wp2_with (go_at_call 48; refine (in_any _ _).mono ?_; rintro e w' ⟨rfl, rfl⟩)
        go_ret
        exact ⟨by rw [← HG.out]; simp [rightB, h1, h2, h3], H.out _⟩
      · go_enter Try.func14, Try.ntmps14
        go_wp2_with (go_at_call 48; refine (in_any _ _).mono ?_; rintro e w' ⟨rfl, rfl⟩)
        go_ret
        exact ⟨by rw [← HG.out]; simp [rightB, h1, h2, h3], H.out _⟩

theorem Empty_any (r : Rc) (w : World) : Calls Try.prog 15 #[.agg #[.int .i64 r.a, .int .i64 r.b, .int .i64 r.c, .int .i64 r.d]] w (Says w (.bool (empB r))) := by
  have H := hide (below_alloc w)
  obtain ⟨g, hg⟩ : ∃ g, empB r = g := ⟨_, rfl⟩
  have HG := Lib.hid hg
  rw [hg]
  clear hg
  cases h1 : rightB r
  · go_enter Try.func15, Try.ntmps15
    go_wp2_with (go_at_call 13; refine (Right_any _ _).mono ?_; rintro e w1 ⟨rfl, hb⟩; obtain ⟨hc, hf⟩ := bcell hb; have HB := hide hb; clear hb)
    go_ret
    exact ⟨by rw [← HG.out]; simp [empB, h1], (H.out _).trans (HB.out.mono (by simp))⟩
  · by_cases h2 : r.c ≤ r.a
    · go_enter Try.func15, Try.ntmps15
      go_wp2_with (go_at_call 13; refine (Right_any _ _).mono ?_; rintro e w1 ⟨rfl, hb⟩; obtain ⟨hc, hf⟩ := bcell hb; have HB := hide hb; clear hb)
      go_ret
      exact ⟨by rw [← HG.out]; simp [empB, h1, h2], (H.out _).trans (HB.out.mono (by simp))⟩
    · go_enter Try.func15, Try.ntmps15
      go_wp2_with (go_at_call 13; refine (Right_any _ _).mono ?_; rintro e w1 ⟨rfl, hb⟩; obtain ⟨hc, hf⟩ := bcell hb; have HB := hide hb; clear hb)
      go_ret
      exact ⟨by rw [← HG.out]; simp [empB, h1], (H.out _).trans (HB.out.mono (by simp))⟩

theorem Norm_any (r : Rc) (w : World) : Calls Try.prog 17 #[.agg #[.int .i64 r.a, .int .i64 r.b, .int .i64 r.c, .int .i64 r.d]] w (Says w (.agg #[.int .i64 (nm r).a, .int .i64 (nm r).b, .int .i64 (nm r).c, .int .i64 (nm r).d])) := by
  have H := hide (below_alloc2 w)
  cases h : empB r
  · rw [nm_not h]
    go_enter Try.func17, Try.ntmps17
    go_wp2_with fail
    refine (Empty_any _ _).mono ?_
    rintro e w1 ⟨rfl, hb⟩
    obtain ⟨hc, hf⟩ := bcell hb
    have hz := hb.size
    simp at hz
    have HB := hide hb
    clear hb
    go_wp2_with fail
    refine bodyPost_ret (v := .agg #[.int .i64 r.a, .int .i64 r.b, .int .i64 r.c, .int .i64 r.d]) (by simp [results, Try.results17, go_sem, hc]) rfl ⟨rfl, ?_⟩
    exact below_set4 ((H.out _ _).trans (HB.out.mono (by simp; omega))) (by omega) _ _ _ _
  · rw [nm_emp h]
    go_enter Try.func17, Try.ntmps17
    go_wp2_with fail
    refine (Empty_any _ _).mono ?_
    rintro e w1 ⟨rfl, hb⟩
    obtain ⟨hc, hf⟩ := bcell hb
    have hz := hb.size
    simp at hz
    have HB := hide hb
    clear hb
    go_wp2_with fail
    refine bodyPost_ret (v := .agg #[.int .i64 0, .int .i64 0, .int .i64 0, .int .i64 0]) (by simp [results, Try.results17, go_sem, hc]) rfl ⟨rfl, ?_⟩
    exact below_set4 ((H.out _ _).trans (HB.out.mono (by simp; omega))) (by omega) _ _ _ _

theorem RNorm_any (r : Rc) (w : World) : Calls Try.prog 12 #[.agg #[.int .i64 r.a, .int .i64 r.b, .int .i64 r.c, .int .i64 r.d]] w (Says w (.agg #[.int .i64 (nm r).a, .int .i64 (nm r).b, .int .i64 (nm r).c, .int .i64 (nm r).d])) := by
  have H := hide (below_alloc2 w)
  have HE := Lib.hid (show empB r = (!rightB r || (decide (r.c ≤ r.a) || decide (r.d ≤ r.b))) from rfl)
  have fin : ∀ w1, Below ((w.alloc (.cells #[.int .i64 r.a, .int .i64 r.b, .int .i64 r.c, .int .i64 r.d] 23)).alloc (.cells #[.int .i64 0, .int .i64 0, .int .i64 0, .int .i64 0] 23)).heap.size ((w.alloc (.cells #[.int .i64 r.a, .int .i64 r.b, .int .i64 r.c, .int .i64 r.d] 23)).alloc (.cells #[.int .i64 0, .int .i64 0, .int .i64 0, .int .i64 0] 23)) w1 → Below w.heap.size w w1 := fun w1 hb => (H.out _ _).trans (hb.mono (by simp; omega))
  have FIN := hide fin
  clear fin
  cases h1 : rightB r
  · have e := Lib.hid (nm_emp (r := r) (by rw [HE.out, h1]; rfl))
    rw [e.out]
    go_enter Try.func12, Try.ntmps12
    go_wp2_with fail
    refine (RRight_any _ _).mono ?_
    rintro e w1 ⟨rfl, hb⟩
    obtain ⟨hc, hf⟩ := bcell hb
    have hz := hb.size
    simp at hz
    have HB := hide hb
    clear hb
    go_wp2_with fail
    refine bodyPost_ret (v := .agg #[.int .i64 0, .int .i64 0, .int .i64 0, .int .i64 0]) (by simp [results, Try.results12, go_sem, hc]) rfl ⟨rfl, ?_⟩
    exact below_set4 (FIN.out _ HB.out) (by omega) _ _ _ _
  · by_cases h2 : r.c ≤ r.a
    · have e := Lib.hid (nm_emp (r := r) (by rw [HE.out, h1]; simp [h2]))
      rw [e.out]
      go_enter Try.func12, Try.ntmps12
      go_wp2_with fail
      refine (RRight_any _ _).mono ?_
      rintro e w1 ⟨rfl, hb⟩
      obtain ⟨hc, hf⟩ := bcell hb
      have hz := hb.size
      simp at hz
      have HB := hide hb
      clear hb
      go_wp2_with fail
      refine bodyPost_ret (v := .agg #[.int .i64 0, .int .i64 0, .int .i64 0, .int .i64 0]) (by simp [results, Try.results12, go_sem, hc]) rfl ⟨rfl, ?_⟩
      exact below_set4 (FIN.out _ HB.out) (by omega) _ _ _ _
    · by_cases h3 : r.d ≤ r.b
      · have e := Lib.hid (nm_emp (r := r) (by rw [HE.out, h1]; simp [h3]))
        rw [e.out]
        go_enter Try.func12, Try.ntmps12
        go_wp2_with fail
        refine (RRight_any _ _).mono ?_
        rintro e w1 ⟨rfl, hb⟩
        obtain ⟨hc, hf⟩ := bcell hb
        have hz := hb.size
        simp at hz
        have HB := hide hb
        clear hb
        go_wp2_with fail
        refine bodyPost_ret (v := .agg #[.int .i64 0, .int .i64 0, .int .i64 0, .int .i64 0]) (by simp [results, Try.results12, go_sem, hc]) rfl ⟨rfl, ?_⟩
        exact below_set4 (FIN.out _ HB.out) (by omega) _ _ _ _
      · have e := Lib.hid (nm_not (r := r) (by rw [HE.out, h1]; simp; omega))
        rw [e.out]
        go_enter Try.func12, Try.ntmps12
        go_wp2_with fail
        refine (RRight_any _ _).mono ?_
        rintro e w1 ⟨rfl, hb⟩
        obtain ⟨hc, hf⟩ := bcell hb
        have hz := hb.size
        simp at hz
        have HB := hide hb
        clear hb
        go_wp2_with fail
        refine bodyPost_ret (v := .agg #[.int .i64 r.a, .int .i64 r.b, .int .i64 r.c, .int .i64 r.d]) (by simp [results, Try.results12, go_sem, hc]) rfl ⟨rfl, ?_⟩
        exact below_set4 (FIN.out _ HB.out) (by omega) _ _ _ _

end Go.Proofs.Ytghnaocejbiidaa
