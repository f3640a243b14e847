/-
Contract of the reference: Floor, of any numbers. No statement is proved here.
-/
import Derived.Test.YtehkccogbgjcaaaFlo2
namespace Go.Proofs.Ytehkccogbgjcaaa
open Go.RowKit

set_option maxHeartbeats 1000000 in
set_option maxRecDepth 100000 in
theorem Floor_short (N : Nat) (s s1 : Bool) (A A' : Option Addr) (n n' c c' : Nat) (z z' : Int) (w : World) (h : BV w N s A n c z) (h' : BV w N s1 A' n' c' z') (hn : n ≤ 4) (hn' : n' ≤ 4) (hy : z' ≠ 0) :
    Calls Try.prog 51 #[.agg #[.bool s, .slice A n c], .agg #[.bool s1, .slice A' n' c']] w (MadeB w 6 (Int.fdiv z z')) := by
  have H := hide fun w' (hb : Bel (Three w s s1 A A' n n' c c') w') => h.below ((Three.below _ _ _ _ _ _ _ _ _).trans (hb.mono (by rw [Three.size]; omega)))
  have H' := hide fun w' (hb : Bel (Three w s s1 A A' n n' c c') w') => h'.below ((Three.below _ _ _ _ _ _ _ _ _).trans (hb.mono (by rw [Three.size]; omega)))
  have HS := hide (Three.cells w s s1 A A' n n' c c')
  have HX := hide (Three.box w s s1 A A' n n' c c')
  have HB := hide fun w' (hb : Bel (Three w s s1 A A' n n' c c') w') => (Three.below _ _ _ _ _ _ _ _ _).trans (hb.mono (by rw [Three.size]; omega))
  have H4 := hide (Three.args w s s1 A A' n n' c c')
  have H5 := hide (Three.after w s s1 A A' n n' c c')
  clear h h'
  go_enter Try.func51, Try.ntmps51
  go_wp2_with fail
  refine (short_any N _ _ _ _ _ _ _ _ z z' _ (H.out _ (Three.start _ _ _ _ _ _ _ _ _)) (H'.out _ (Three.start _ _ _ _ _ _ _ _ _)) hn hn' hy).mono ?_
  rintro e w2 ⟨s3, A3, n3, c3, rfl, hB2, hb2⟩
  have hkw2 : Bel (Three w s s1 A A' n n' c c') w2 := Bel.trans (Three.start _ _ _ _ _ _ _ _ _) hb2
  obtain ⟨_, q1, q2, q3, q4, q5, q6, q7, q8⟩ := HS.out _ hkw2
  have HB2 := hide hB2
  have HK2 := hide hkw2
  clear hB2 hkw2
  go_wp2_with fail
  refine bodyPost_ret (v := .agg #[.bool s3, .slice A3 n3 c3]) (by simp [results, Try.results51, go_sem, q5, q6]) rfl ?_
  exact MadeB.fin (HB.out _ HK2.out) (by omega) (HX.out _ HK2.out) HB2.out _ _

/-- the reference's Floor: a number divided by another one, that isn't 0, rounded down -/
theorem Floor_any (N : Nat) (hN : N ≤ 100000) (s s1 : Bool) (A A' : Option Addr) (n n' c c' : Nat) (z z' : Int) (w : World) (h : BV w N s A n c z) (h' : BV w N s1 A' n' c' z') (hy : z' ≠ 0) :
    Calls Try.prog 51 #[.agg #[.bool s, .slice A n c], .agg #[.bool s1, .slice A' n' c']] w (MadeB w (N + 6) (Int.fdiv z z')) := by
  by_cases hs : n ≤ 4 ∧ n' ≤ 4
  · exact (Floor_short N s s1 A A' n n' c c' z z' w h h' hs.1 hs.2 hy).mono fun e w' hm => hm.more (by omega)
  · obtain ⟨x, ⟨la, ha, da, na, hx, hxn⟩, hxs, rfl⟩ := h
    obtain ⟨y, ⟨lb, hb, db, nb, hy1, hyn⟩, hys, rfl⟩ := h'
    subst hx
    subst hy1
    have h0 : 0 < val lb := by
      rcases Nat.eq_zero_or_pos (val lb) with h | h
      · exfalso; apply hy; rw [h]; split <;> simp
      · exact h
    exact (Floor_long s s1 A A' n n' c c' la lb w (by omega) (by omega) ha hb da db na nb h0 (by omega) _ (Lib.hid rfl)).mono fun e w' hm => hm.more (by omega)
end Go.Proofs.Ytehkccogbgjcaaa
