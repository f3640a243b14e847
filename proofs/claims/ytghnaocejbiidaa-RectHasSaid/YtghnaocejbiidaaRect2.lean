/-
Contracts of package rect and of its reference: which places one has, how many. No statement is proved here.
-/
import Derived.Test.YtghnaocejbiidaaRect1
namespace Go.Proofs.Ytghnaocejbiidaa
open Go.RowKit

theorem Has_any (r : Rc) (x y : Int) (w : World) : Calls Try.prog 18 #[.agg #[.int .i64 r.a, .int .i64 r.b, .int .i64 r.c, .int .i64 r.d], .int .i64 x, .int .i64 y] w (Says w (.bool (hasB r x y))) := by
  have H := hide (below_alloc w)
  have HN := hide (fun w => Norm_any r w)
  obtain ⟨g, hg⟩ : ∃ g, hasB r x y = g := ⟨_, rfl⟩
  have HG := Lib.hid hg
  rw [hg]
  clear hg
  unfold hasB at HG
  obtain ⟨q, hq⟩ : ∃ q, nm r = q := ⟨_, rfl⟩
  rw [hq] at HN HG
  clear hq
  by_cases h1 : q.a ≤ x
  · by_cases h2 : x < q.c
    · by_cases h3 : q.b ≤ y
      · go_enter Try.func18, Try.ntmps18
        go_wp2_with fail
        refine (HN.out _).mono ?_
        rintro e w1 ⟨rfl, hb⟩
        obtain ⟨hc, hf⟩ := bcell hb
        have hz := hb.size
        simp at hz
        have HB := hide hb
        clear hb
        go_wp2_with fail
        go_ret
        exact ⟨by rw [← HG.out]; simp [h1, h2, h3], below_set4 ((H.out _).trans (HB.out.mono (by simp))) (by omega) _ _ _ _⟩
      · go_enter Try.func18, Try.ntmps18
        go_wp2_with fail
        refine (HN.out _).mono ?_
        rintro e w1 ⟨rfl, hb⟩
        obtain ⟨hc, hf⟩ := bcell hb
        have hz := hb.size
        simp at hz
        have HB := hide hb
        clear hb
        go_wp2_with fail
        go_ret
        exact ⟨by rw [← HG.out]; simp; omega, below_set4 ((H.out _).trans (HB.out.mono (by simp))) (by omega) _ _ _ _⟩
    · go_enter Try.func18, Try.ntmps18
      go_wp2_with fail
      refine (HN.out _).mono ?_
      rintro e w1 ⟨rfl, hb⟩
      obtain ⟨hc, hf⟩ := bcell hb
      have hz := hb.size
      simp at hz
      have HB := hide hb
      clear hb
      go_wp2_with fail
      go_ret
      exact ⟨by rw [← HG.out]; simp; omega, below_set4 ((H.out _).trans (HB.out.mono (by simp))) (by omega) _ _ _ _⟩
  · go_enter Try.func18, Try.ntmps18
    go_wp2_with fail
    refine (HN.out _).mono ?_
    rintro e w1 ⟨rfl, hb⟩
    obtain ⟨hc, hf⟩ := bcell hb
    have hz := hb.size
    simp at hz
    have HB := hide hb
    clear hb
    go_wp2_with fail
    go_ret
    exact ⟨by rw [← HG.out]; simp; omega, below_set4 ((H.out _).trans (HB.out.mono (by simp))) (by omega) _ _ _ _⟩

theorem RHas_any (r : Rc) (x y : Int) (w : World) : Calls Try.prog 19 #[.agg #[.int .i64 r.a, .int .i64 r.b, .int .i64 r.c, .int .i64 r.d], .int .i64 x, .int .i64 y] w (Says w (.bool (hasB r x y))) := by
  have H := hide (below_alloc w)
  have HN := hide (fun w => RNorm_any r w)
  obtain ⟨g, hg⟩ : ∃ g, hasB r x y = g := ⟨_, rfl⟩
  have HG := Lib.hid hg
  rw [hg]
  clear hg
  unfold hasB at HG
  obtain ⟨q, hq⟩ : ∃ q, nm r = q := ⟨_, rfl⟩
  rw [hq] at HN HG
  clear hq
  by_cases h1 : q.a ≤ x
  · by_cases h2 : x < q.c
    · by_cases h3 : q.b ≤ y
      · go_enter Try.func19, Try.ntmps19
        go_wp2_with fail
        refine (HN.out _).mono ?_
        rintro e w1 ⟨rfl, hb⟩
        obtain ⟨hc, hf⟩ := bcell hb
        have hz := hb.size
        simp at hz
        have HB := hide hb
        clear hb
        go_wp2_with fail
        go_ret
        exact ⟨by rw [← HG.out]; simp [h1, h2, h3], (((H.out _).trans (HB.out.mono (by simp))).alloc (by omega) _)⟩
      · go_enter Try.func19, Try.ntmps19
        go_wp2_with fail
        refine (HN.out _).mono ?_
        rintro e w1 ⟨rfl, hb⟩
        obtain ⟨hc, hf⟩ := bcell hb
        have hz := hb.size
        simp at hz
        have HB := hide hb
        clear hb
        go_wp2_with fail
        go_ret
        exact ⟨by rw [← HG.out]; simp; omega, (((H.out _).trans (HB.out.mono (by simp))).alloc (by omega) _)⟩
    · go_enter Try.func19, Try.ntmps19
      go_wp2_with fail
      refine (HN.out _).mono ?_
      rintro e w1 ⟨rfl, hb⟩
      obtain ⟨hc, hf⟩ := bcell hb
      have hz := hb.size
      simp at hz
      have HB := hide hb
      clear hb
      go_wp2_with fail
      go_ret
      exact ⟨by rw [← HG.out]; simp; omega, (((H.out _).trans (HB.out.mono (by simp))).alloc (by omega) _)⟩
  · go_enter Try.func19, Try.ntmps19
    go_wp2_with fail
    refine (HN.out _).mono ?_
    rintro e w1 ⟨rfl, hb⟩
    obtain ⟨hc, hf⟩ := bcell hb
    have hz := hb.size
    simp at hz
    have HB := hide hb
    clear hb
    go_wp2_with fail
    go_ret
    exact ⟨by rw [← HG.out]; simp; omega, (((H.out _).trans (HB.out.mono (by simp))).alloc (by omega) _)⟩


end Go.Proofs.Ytghnaocejbiidaa
