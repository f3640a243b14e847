/-
The law ImgChecks: its walk. No statement is proved here.
-/
import Derived.Test.YtghnaocejbiidaaImg5
import Derived.Lib.QuietBelow
namespace Go.Proofs.Ytghnaocejbiidaa
open Go.RowKit

theorem Two2.below {w : World} {x y c x' y' c' : Int} {A A' : Option Addr} {n cap n' cap' : Nat} {xs ys : List Int} {w1 w2 : World} (k : Two2 w x y c x' y' c' A A' n cap n' cap' xs ys w1) (hb : Below w1.heap.size w1 w2) : Two2 w x y c x' y' c' A A' n cap n' cap' xs ys w2 :=
  ⟨k.1.below hb, k.2.1.below hb, k.2.2.1.below hb, k.2.2.2.1.below hb, k.2.2.2.2.trans (hb.mono k.2.2.2.2.size)⟩

set_option maxHeartbeats 2000000 in
theorem ImgChecks_walk (x y c x' y' c' : Int) (A A' : Option Addr) (n cap n' cap' : Nat) (xs ys : List Int) (w : World) (h : BY w A n cap xs) (h' : BY w A' n' cap' ys) :
    Calls Try.prog 7 #[.agg #[.int .i64 x, .int .i64 y, .int .i64 c, .slice A n cap], .agg #[.int .i64 x', .int .i64 y', .int .i64 c', .slice A' n' cap']] w (Says w (.bool true)) := by
  have KS := Two2.start (x := x) (y := y) (c := c) (x' := x') (y' := y') (c' := c') h h'
  have F1 := hide (fun w => Few_any x y c A n cap 20000 w)
  have F2 := hide (fun w => Few_any x' y' c' A' n' cap' 20000 w)
  have C1 := hide (fun w => Check_any x y c A n cap w)
  have C2 := hide (fun w => RCheck_any x y c A n cap w)
  have AL := hide alive7_any
  clear h h'
  obtain ⟨z, hz⟩ : ∃ z, checkZ x y c n = z := ⟨_, rfl⟩
  rw [hz] at C1 C2
  clear hz
  obtain ⟨g, hg⟩ : ∃ g, decide ((n : Int) ≤ 20000) = g := ⟨_, rfl⟩
  rw [hg] at F1
  obtain ⟨g', hg'⟩ : ∃ g', decide ((n' : Int) ≤ 20000) = g' := ⟨_, rfl⟩
  rw [hg'] at F2
  clear hg hg'
  generalize hW : ((w.alloc (.cells #[.int .i64 x, .int .i64 y, .int .i64 c, .slice A n cap] 40)).alloc (.cells #[.int .i64 x', .int .i64 y', .int .i64 c', .slice A' n' cap'] 40)) = W0 at KS
  obtain ⟨_, a0, a1, a2, a3, _, _, _, _⟩ := KS.1.four
  obtain ⟨_, b0, b1, b2, b3, _, _, _, _⟩ := KS.2.1.four
  go_enter Try.func7, Try.ntmps7
  go_wp2_with fail
  refine (F1.out _).mono ?_
  rintro e w1 ⟨rfl, hb⟩
  have K1 := KS.below hb
  clear hb a0 a1 a2 a3 b0 b1 b2 b3 KS hW
  cases g
  · have K2 := hide K1
    clear K1
    go_wp2_with fail
    go_ret
    exact ⟨rfl, K2.out.2.2.2.2⟩
  · obtain ⟨_, b0, b1, b2, b3, _, _, _, _⟩ := K1.2.1.four
    have K1 := hide K1
    go_wp2_with fail
    refine (F2.out _).mono ?_
    rintro e w2 ⟨rfl, hb⟩
    have K2 := K1.out.below hb
    clear hb b0 b1 b2 b3 K1
    cases g'
    · have K3 := hide K2
      clear K2
      go_wp2_with fail
      go_ret
      exact ⟨rfl, K3.out.2.2.2.2⟩
    · have S1 := hide (fun d os => Same_any x y c x' y' c' A A' n cap n' cap' xs ys (Sort.grow (redrawn w2 d) os) (K2.2.2.1.below (below_regrown w2 d os)) (K2.2.2.2.1.below (below_regrown w2 d os)))
      have S2 := hide (fun d os => RSame_any x y c x' y' c' A A' n cap n' cap' xs ys (Sort.grow (redrawn w2 d) os) (K2.2.2.1.below (below_regrown w2 d os)) (K2.2.2.2.1.below (below_regrown w2 d os)))
      have S3 := hide (fun d os => Same_any x y c x y c A A n cap n cap xs xs (Sort.grow (redrawn w2 d) os) (K2.2.2.1.below (below_regrown w2 d os)) (K2.2.2.1.below (below_regrown w2 d os)))
      rw [show sameB x y c x y c xs xs = true by simp [sameB]] at S3
      obtain ⟨v, hv⟩ : ∃ v, sameB x y c x' y' c' xs ys = v := ⟨_, rfl⟩
      rw [hv] at S1 S2
      clear hv
      obtain ⟨_, a0, a1, a2, a3, _, _, _, _⟩ := K2.1.four
      obtain ⟨_, b0, b1, b2, b3, _, _, _, _⟩ := K2.2.1.four
      replace a0 := cell_regrown a0
      replace a1 := cell_regrown a1
      replace a2 := cell_regrown a2
      replace a3 := cell_regrown a3
      replace b0 := cell_regrown b0
      replace b1 := cell_regrown b1
      replace b2 := cell_regrown b2
      replace b3 := cell_regrown b3
      have HK := hide K2
      clear K2
      go_wp2_with fail
      refine wp_region_quiet_below (by kernel_rfl) (by kernel_rfl) ?_
      repeat (go_big_quiet_step ((first
        | (go_at_call 31; exact Calls.regrown_of (C1.out _))
        | (go_at_call 32; exact Calls.regrown_of (C2.out _))
        | (go_at_call_of 33 (Value.agg #[.int .i64 x', .int .i64 y', .int .i64 c', .slice A' n' cap']); exact Calls.regrown_of (S1.out _ _))
        | (go_at_call 33; exact Calls.regrown_of (S3.out _ _))
        | (go_at_call 34; exact Calls.regrown_of (S2.out _ _))
        | (go_at_call 35; exact Calls.regrown_of (AL.out _)))))
      refine wpQuiet_nil ?_
      rintro w3 ⟨p3, h3⟩
      have K3 : Two2 w x y c x' y' c' A A' n cap n' cap' xs ys w3 := h3 ▸ Two2.below HK.out (below_regrown _ _ _)
      clear h3 a0 a1 a2 a3 b0 b1 b2 b3
      go_wp2_with fail
      go_ret
      exact ⟨rfl, K3.2.2.2.2⟩

end Go.Proofs.Ytghnaocejbiidaa
