/-
Contract of whether two images are the same: the reference's. No statement is proved here.
-/
import Derived.Test.YtbogckpnajjlmaaImg2
import Derived.LoopTactic
namespace Go.Proofs.Ytbogckpnajjlmaa
open Go.RowKit

def sameB (x y c x' y' c' : Int) (xs ys : List Int) : Bool := decide (x = x' ∧ y = y' ∧ c = c' ∧ xs = ys)
/-- the first k bytes are alike -/
def Agree (xs ys : List Int) (k : Nat) : Prop := ∀ j, j < k → xs.getD j 0 = ys.getD j 0
theorem Agree.zero (xs ys : List Int) : Agree xs ys 0 := fun j h => absurd h (by omega)
theorem Agree.succ {xs ys : List Int} {k : Nat} (h : Agree xs ys k) (e : xs.getD k 0 = ys.getD k 0) : Agree xs ys (k + 1) := fun j hj => by
  rcases Nat.lt_or_ge j k with h1 | h1
  · exact h j h1
  · obtain rfl : j = k := by omega
    exact e
theorem Agree.all {xs ys : List Int} {n : Nat} (h : Agree xs ys n) (hx : xs.length = n) (hy : ys.length = n) : xs = ys := by
  apply List.ext_getElem?
  intro j
  rcases Nat.lt_or_ge j n with h1 | h1
  · have := h j h1
    rw [List.getD_eq_getElem?_getD, List.getD_eq_getElem?_getD] at this
    rw [List.getElem?_eq_getElem (by omega), List.getElem?_eq_getElem (by omega)] at this ⊢
    simpa using this
  · rw [List.getElem?_eq_none (by omega), List.getElem?_eq_none (by omega)]
/-- two boxes of images -/
def Two2 (w : World) (x y c x' y' c' : Int) (A A' : Option Addr) (n cap n' cap' : Nat) (xs ys : List Int) (w' : World) : Prop :=
  Bx w' w.heap.size [.int .i64 x, .int .i64 y, .int .i64 c, .slice A n cap] ∧ Bx w' (w.heap.size + 1) [.int .i64 x', .int .i64 y', .int .i64 c', .slice A' n' cap'] ∧ BY w' A n cap xs ∧ BY w' A' n' cap' ys ∧ Below w.heap.size w w'
theorem Two2.start {w : World} {x y c x' y' c' : Int} {A A' : Option Addr} {n cap n' cap' : Nat} {xs ys : List Int} (h : BY w A n cap xs) (h' : BY w A' n' cap' ys) :
    Two2 w x y c x' y' c' A A' n cap n' cap' xs ys ((w.alloc (.cells #[.int .i64 x, .int .i64 y, .int .i64 c, .slice A n cap] 24)).alloc (.cells #[.int .i64 x', .int .i64 y', .int .i64 c', .slice A' n' cap'] 24)) :=
  ⟨(Bx.at [.int .i64 x, .int .i64 y, .int .i64 c, .slice A n cap] _ rfl).alloc _, Bx.at [.int .i64 x', .int .i64 y', .int .i64 c', .slice A' n' cap'] _ (by simp), h.below (below_alloc2 w _ _), h'.below (below_alloc2 w _ _), below_alloc2 w _ _⟩
theorem Two2.drewN {w : World} {x y c x' y' c' : Int} {A A' : Option Addr} {n cap n' cap' : Nat} {xs ys : List Int} {w' : World} (k : Two2 w x y c x' y' c' A A' n cap n' cap' xs ys w') (m : Nat) : Two2 w x y c x' y' c' A A' n cap n' cap' xs ys (w'.drewN m) :=
  ⟨k.1, k.2.1, k.2.2.1, k.2.2.2.1, bdrewN k.2.2.2.2 m⟩

set_option maxHeartbeats 1000000 in
theorem RSame_loop (x y c : Int) (A A' : Option Addr) (n cap cap' : Nat) (xs ys : List Int) (w : World) (h : BY w A n cap xs) (h' : BY w A' n cap' ys) :
    Calls Try.prog 13 #[.agg #[.int .i64 x, .int .i64 y, .int .i64 c, .slice A n cap], .agg #[.int .i64 x, .int .i64 y, .int .i64 c, .slice A' n cap']] w (Says w (.bool (decide (xs = ys)))) := by
  have KS := hide (Two2.start (x := x) (y := y) (c := c) (x' := x) (y' := y) (c' := c) h h')
  have hm : n ≤ 9223372036854775807 := by have := h.2.1; have := h.2.2.1; unfold maxLen at this; omega
  have HL := hide h.1
  have HL' := hide h'.1
  clear h h'
  obtain ⟨g, hg⟩ : ∃ g, decide (xs = ys) = g := ⟨_, rfl⟩
  have HG := Lib.hid hg
  rw [hg]
  clear hg
  go_enter Try.func13, Try.ntmps13
  go_wp2_with fail
  go_loopw [5] (fun i wr => ∃ k : Nat, k ≤ n ∧ i = .int .i64 k ∧ Agree xs ys k ∧ Two2 w x y c x y c A A' n cap n cap' xs ys wr) (fun i _ => n - (intOf i).toNat)
  case atStart => exact ⟨0, Nat.zero_le _, rfl, Agree.zero _ _, KS.out⟩
  case round =>
    clear KS
    obtain ⟨k, hk, rfl, hA, hK⟩ := hrel
    have HA := hide hA
    have HK := hide hK
    obtain ⟨_, a0, a1, a2, a3, _, _, _, _⟩ := hK.1.four
    obtain ⟨_, b0, b1, b2, b3, _, _, _, _⟩ := hK.2.1.four
    clear hA hK
    by_cases hlt : k < n
    · obtain ⟨p, o, rfl, _, hc⟩ := HK.out.2.2.1.2.2.2.2 (by omega)
      obtain ⟨p', o', rfl, _, hc'⟩ := HK.out.2.2.2.1.2.2.2.2 (by omega)
      have c1 := hc k hlt
      have c2 := hc' k hlt
      clear hc hc'
      have i0 : (0 : Int) ≤ (k : Int) := by omega
      have i1 : (k : Int) < (n : Int) := by omega
      obtain ⟨u, hu⟩ : ∃ u, xs.getD k 0 = u := ⟨_, rfl⟩
      obtain ⟨v, hv⟩ : ∃ v, ys.getD k 0 = v := ⟨_, rfl⟩
      have HU := Lib.hid hu
      have HV := Lib.hid hv
      rw [hu] at c1
      rw [hv] at c2
      clear hu hv
      by_cases he : u = v
      · subst he
        have HS := hide (HA.out.succ (HU.out.trans HV.out.symm))
        go_wp2_with fail
        go_quiet (fail)
        go_wp2_with fail
        go_roundw
        case rel => exact ⟨k + 1, by omega, by go_num, HS.out, HK.out.drewN _⟩
        case measure => simp [intOf]; omega
      · have hne : (u != v) = true := by simpa using he
        have HF := hide (show false = g by rw [← HG.out]; symm; rw [decide_eq_false_iff_not]; rintro rfl; exact he (HU.out.symm.trans HV.out))
        clear he
        go_wp2_with fail
        go_quiet (fail)
        go_wp2_with fail
        go_ret
        exact ⟨congrArg (fun b => Ending.returned (.bool b)) HF.out, (HK.out.drewN _).2.2.2.2⟩
    · obtain rfl : k = n := by omega
      have HT := hide (show true = g by rw [← HG.out]; symm; rw [decide_eq_true_iff]; exact HA.out.all HL.out HL'.out)
      go_wp2_with fail
      go_ret
      exact ⟨congrArg (fun b => Ending.returned (.bool b)) HT.out, HK.out.2.2.2.2⟩

set_option maxHeartbeats 1000000 in
theorem RSame_any (x y c x' y' c' : Int) (A A' : Option Addr) (n cap n' cap' : Nat) (xs ys : List Int) (w : World) (h : BY w A n cap xs) (h' : BY w A' n' cap' ys) :
    Calls Try.prog 13 #[.agg #[.int .i64 x, .int .i64 y, .int .i64 c, .slice A n cap], .agg #[.int .i64 x', .int .i64 y', .int .i64 c', .slice A' n' cap']] w (Says w (.bool (sameB x y c x' y' c' xs ys))) := by
  have H := hide (below_alloc2 w)
  by_cases e1 : x = x'
  · by_cases e2 : y = y'
    · by_cases e3 : c = c'
      · by_cases e4 : n = n'
        · subst e1 e2 e3 e4
          have hs : sameB x y c x y c xs ys = decide (xs = ys) := by simp [sameB]
          rw [hs]
          exact RSame_loop x y c A A' n cap cap' xs ys w h h'
        · have hs : sameB x y c x' y' c' xs ys = false := by
            simp only [sameB, decide_eq_false_iff_not]
            rintro ⟨_, _, _, rfl⟩
            exact e4 (h.1.symm.trans h'.1)
          rw [hs]
          have b3 : ((n : Int) != (n' : Int)) = true := by simp; omega
          clear hs e4 h h'
          subst e1 e2 e3
          go_enter Try.func13, Try.ntmps13
          go_wp2_with fail
          go_ret
          exact ⟨rfl, H.out _ _⟩
      · have hs : sameB x y c x' y' c' xs ys = false := by simp [sameB, e3]
        rw [hs]
        have b3 : (c != c') = true := by simpa using e3
        clear hs e3 h h'
        subst e1 e2
        go_enter Try.func13, Try.ntmps13
        go_wp2_with fail
        go_ret
        exact ⟨rfl, H.out _ _⟩
    · have hs : sameB x y c x' y' c' xs ys = false := by simp [sameB, e2]
      rw [hs]
      have b3 : (y != y') = true := by simpa using e2
      subst e1
      clear hs e2 h h'
      go_enter Try.func13, Try.ntmps13
      go_wp2_with fail
      go_ret
      exact ⟨rfl, H.out _ _⟩
  · have hs : sameB x y c x' y' c' xs ys = false := by simp [sameB, e1]
    rw [hs]
    have b3 : (x != x') = true := by simpa using e1
    clear hs e1 h h'
    go_enter Try.func13, Try.ntmps13
    go_wp2_with fail
    go_ret
    exact ⟨rfl, H.out _ _⟩

end Go.Proofs.Ytbogckpnajjlmaa
