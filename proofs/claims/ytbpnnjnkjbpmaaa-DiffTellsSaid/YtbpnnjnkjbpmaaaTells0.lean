/-
The law DiffTells: what lies there while its loop goes on, and its walk where nothing can be told. No statement is proved here.
-/
import Derived.Test.YtbpnnjnkjbpmaaaThird2
import Derived.Test.YtbpnnjnkjbpmaaaMap0
import Derived.Test.YtbpnnjnkjbpmaaaWithin
namespace Go.Proofs.Ytbpnnjnkjbpmaaa
open Go.RowKit

theorem Two2.below {w : World} {x y c x' y' c' : Int} {A A' : Option Addr} {n cap n' cap' : Nat} {xs ys : List Int} {w1 w2 : World} (k : Two2 w x y c x' y' c' A A' n cap n' cap' xs ys w1) (hb : Below w1.heap.size w1 w2) : Two2 w x y c x' y' c' A A' n cap n' cap' xs ys w2 :=
  ⟨k.1.below hb, k.2.1.below hb, k.2.2.1.below hb, k.2.2.2.1.below hb, k.2.2.2.2.trans (hb.mono k.2.2.2.2.size)⟩

/-- what lies there while the wanted difference is made -/
def TK (w : World) (x y c : Int) (A A' : Option Addr) (n cap cap' : Nat) (gd g gm gw : Nat) (xs ys : List Int) (d e : Df) (w' : World) : Prop :=
  Bx w' w.heap.size [.int .i64 x, .int .i64 y, .int .i64 c, .slice A n cap] ∧ Bx w' (w.heap.size + 1) [.int .i64 x, .int .i64 y, .int .i64 c, .slice A' n cap'] ∧ Bx w' gd (lD d) ∧ Bx w' g (mapped xs ys n n) ∧ Bx w' gm [.int .i64 x, .int .i64 y, .int .i64 c, .slice (some ⟨g, 0, none⟩) n n] ∧ Bx w' gw (lD e) ∧ Below w.heap.size w w'
def TKapart (s gd g gm gw : Nat) : Prop := s + 2 ≤ gw ∧ gd < gw ∧ g < gw ∧ gm < gw
theorem TK.drewN {w : World} {x y c : Int} {A A' : Option Addr} {n cap cap' gd g gm gw : Nat} {xs ys : List Int} {d e : Df} {w' : World} (h : TK w x y c A A' n cap cap' gd g gm gw xs ys d e w') (m : Nat) : TK w x y c A A' n cap cap' gd g gm gw xs ys d e (w'.drewN m) :=
  ⟨h.1.drewN _, h.2.1.drewN _, h.2.2.1.drewN _, h.2.2.2.1.drewN _, h.2.2.2.2.1.drewN _, h.2.2.2.2.2.1.drewN _, bdrewN h.2.2.2.2.2.2 _⟩
theorem TK.drew {w : World} {x y c : Int} {A A' : Option Addr} {n cap cap' gd g gm gw : Nat} {xs ys : List Int} {d e : Df} {w' : World} (h : TK w x y c A A' n cap cap' gd g gm gw xs ys d e w') : TK w x y c A A' n cap cap' gd g gm gw xs ys d e w'.drew :=
  ⟨h.1, h.2.1, h.2.2.1, h.2.2.2.1, h.2.2.2.2.1, h.2.2.2.2.2.1, h.2.2.2.2.2.2.drew⟩
theorem TK.put {w : World} {x y c : Int} {A A' : Option Addr} {n cap cap' gd g gm gw : Nat} {xs ys : List Int} {d e e' : Df} {w' : World} (h : TK w x y c A A' n cap cap' gd g gm gw xs ys d e w') (ha : TKapart w.heap.size gd g gm gw) (i : Nat) (hi : i < 7) (u : Value) (he : (lD e).set i u = lD e') : TK w x y c A A' n cap cap' gd g gm gw xs ys d e' (w'.setCell ⟨gw, i, none⟩ u) := by
  obtain ⟨a1, a2, a3, a4⟩ := ha
  exact ⟨h.1.other (by omega) _, h.2.1.other (by omega) _, h.2.2.1.other (by omega) _, h.2.2.2.1.other (by omega) _, h.2.2.2.2.1.other (by omega) _, he ▸ h.2.2.2.2.2.1.set i hi u, h.2.2.2.2.2.2.setCell (show w.heap.size ≤ gw by omega) _⟩
theorem TK.put3 {w : World} {x y c : Int} {A A' : Option Addr} {n cap cap' gd g gm gw : Nat} {xs ys : List Int} {d e : Df} {w' : World} (h : TK w x y c A A' n cap cap' gd g gm gw xs ys d e w') (ha : TKapart w.heap.size gd g gm gw) (b s q : Int) : TK w x y c A A' n cap cap' gd g gm gw xs ys d ⟨e.cnt, b, s, q, e.x, e.y, e.k⟩ (((w'.setCell ⟨gw, 1, none⟩ (.int .i64 b)).setCell ⟨gw, 2, none⟩ (.int .u64 s)).setCell ⟨gw, 3, none⟩ (.int .u64 q)) :=
  ((h.put (e' := ⟨e.cnt, b, e.sum, e.sq, e.x, e.y, e.k⟩) ha 1 (by omega) _ rfl).put (e' := ⟨e.cnt, b, s, e.sq, e.x, e.y, e.k⟩) ha 2 (by omega) _ rfl).put (e' := ⟨e.cnt, b, s, q, e.x, e.y, e.k⟩) ha 3 (by omega) _ rfl
theorem TK.put4 {w : World} {x y c : Int} {A A' : Option Addr} {n cap cap' gd g gm gw : Nat} {xs ys : List Int} {d e : Df} {w' : World} (h : TK w x y c A A' n cap cap' gd g gm gw xs ys d e w') (ha : TKapart w.heap.size gd g gm gw) (a b s q : Int) : TK w x y c A A' n cap cap' gd g gm gw xs ys d ⟨a, b, s, q, e.x, e.y, e.k⟩ ((((w'.setCell ⟨gw, 0, none⟩ (.int .i64 a)).setCell ⟨gw, 1, none⟩ (.int .i64 b)).setCell ⟨gw, 2, none⟩ (.int .u64 s)).setCell ⟨gw, 3, none⟩ (.int .u64 q)) :=
  (h.put (e' := ⟨a, e.most, e.sum, e.sq, e.x, e.y, e.k⟩) ha 0 (by omega) _ rfl).put3 ha b s q
theorem TK.put7 {w : World} {x y c : Int} {A A' : Option Addr} {n cap cap' gd g gm gw : Nat} {xs ys : List Int} {d e : Df} {w' : World} (h : TK w x y c A A' n cap cap' gd g gm gw xs ys d e w') (ha : TKapart w.heap.size gd g gm gw) (a b s q u v z : Int) : TK w x y c A A' n cap cap' gd g gm gw xs ys d ⟨a, b, s, q, u, v, z⟩
    (((((((w'.setCell ⟨gw, 4, none⟩ (.int .i64 u)).setCell ⟨gw, 5, none⟩ (.int .i64 v)).setCell ⟨gw, 6, none⟩ (.int .i64 z)).setCell ⟨gw, 0, none⟩ (.int .i64 a)).setCell ⟨gw, 1, none⟩ (.int .i64 b)).setCell ⟨gw, 2, none⟩ (.int .u64 s)).setCell ⟨gw, 3, none⟩ (.int .u64 q)) :=
  (((h.put (e' := ⟨e.cnt, e.most, e.sum, e.sq, u, e.y, e.k⟩) ha 4 (by omega) _ rfl).put (e' := ⟨e.cnt, e.most, e.sum, e.sq, u, v, e.k⟩) ha 5 (by omega) _ rfl).put (e' := ⟨e.cnt, e.most, e.sum, e.sq, u, v, z⟩) ha 6 (by omega) _ rfl).put4 ha a b s q
theorem TK.cell {w : World} {x y c : Int} {A A' : Option Addr} {n cap cap' gd g gm gw : Nat} {xs ys : List Int} {d e : Df} {w' : World} (h : TK w x y c A A' n cap cap' gd g gm gw xs ys d e w') {k : Nat} (hk : k < n) : w'.cell? ⟨g, k, none⟩ = some (.int .u8 (absd (xs.getD k 0) (ys.getD k 0))) :=
  (h.2.2.2.1.2 k _ (by simp [mapped, hk])).1


set_option maxHeartbeats 4000000 in
set_option maxRecDepth 100000 in
/-- what isn't asked -/
theorem Tells_many (x y c x' y' c' b' : Int) (A A' : Option Addr) (n cap n' cap' : Nat) (xs ys : List Int) (w : World) (h : BY w A n cap xs) (h' : BY w A' n' cap' ys) (hn : decide ((n : Int) ≤ 20000) = false ∨ decide ((n' : Int) ≤ 20000) = false) :
    Calls Try.prog 3 #[.agg #[.int .i64 x, .int .i64 y, .int .i64 c, .slice A n cap], .agg #[.int .i64 x', .int .i64 y', .int .i64 c', .slice A' n' cap'], .int .i64 b'] w (Says w (.bool true)) := by
  have F1 := hide (fun w => Few_any x y c A n cap 20000 w)
  have F2 := hide (fun w => Few_any x' y' c' A' n' cap' 20000 w)
  obtain ⟨p, hp⟩ : ∃ p, decide ((n : Int) ≤ 20000) = p := ⟨_, rfl⟩
  obtain ⟨q, hq⟩ : ∃ q, decide ((n' : Int) ≤ 20000) = q := ⟨_, rfl⟩
  rw [hp] at F1 hn
  rw [hq] at F2 hn
  clear hp hq
  have KS := Two2.start (x := x) (y := y) (c := c) (x' := x') (y' := y') (c' := c') h h'
  obtain ⟨_, a0, a1, a2, a3, _, _, _, _⟩ := KS.1.four
  obtain ⟨_, b0, b1, b2, b3, _, _, _, _⟩ := KS.2.1.four
  have HKS := hide KS
  clear KS h h'
  cases p
  · clear hn
    go_enter Try.func3, Try.ntmps3
    go_wp2_with fail
    refine (F1.out _).mono ?_
    rintro e w1 ⟨rfl, hb⟩
    have K1 := hide (HKS.out.below hb)
    clear hb a0 a1 a2 a3 b0 b1 b2 b3 HKS
    go_wp2_with fail
    go_ret
    exact ⟨rfl, K1.out.2.2.2.2⟩
  · obtain rfl : q = false := hn.resolve_left (by simp)
    go_enter Try.func3, Try.ntmps3
    go_wp2_with fail
    refine (F1.out _).mono ?_
    rintro e w1 ⟨rfl, hb⟩
    have K1 := hide (HKS.out.below hb)
    clear hb a0 a1 a2 a3 b0 b1 b2 b3 HKS
    obtain ⟨_, b0, b1, b2, b3, _, _, _, _⟩ := K1.out.2.1.four
    go_wp2_with fail
    refine (F2.out _).mono ?_
    rintro e w2 ⟨rfl, hb⟩
    have K2 := hide (K1.out.below hb)
    clear hb b0 b1 b2 b3 K1
    go_wp2_with fail
    go_ret
    exact ⟨rfl, K2.out.2.2.2.2⟩

set_option maxHeartbeats 4000000 in
set_option maxRecDepth 100000 in
/-- what can't be held against each other -/
theorem Tells_err (x y c x' y' c' b' : Int) (A A' : Option Addr) (n cap n' cap' : Nat) (xs ys : List Int) (w : World) (h : BY w A n cap xs) (h' : BY w A' n' cap' ys) (hn : (n : Int) ≤ 20000) (hn' : (n' : Int) ≤ 20000) (hd : dchkZ x y c n x' y' c' n' ≠ 0) :
    Calls Try.prog 3 #[.agg #[.int .i64 x, .int .i64 y, .int .i64 c, .slice A n cap], .agg #[.int .i64 x', .int .i64 y', .int .i64 c', .slice A' n' cap'], .int .i64 b'] w (Says w (.bool true)) := by
  have F1 := hide (fun w => Few_any x y c A n cap 20000 w)
  have F2 := hide (fun w => Few_any x' y' c' A' n' cap' 20000 w)
  rw [show decide ((n : Int) ≤ 20000) = true by simpa using hn] at F1
  rw [show decide ((n' : Int) ≤ 20000) = true by simpa using hn'] at F2
  have C1 := hide (fun w => RDCheck_any x y c x' y' c' A A' n cap n' cap' w)
  have C2 := hide (fun w => DCheck_any x y c x' y' c' A A' n cap n' cap' w)
  have O1 := hide (fun w => Of_err x y c x' y' c' A A' n cap n' cap' hd w)
  have M1 := hide (fun w => Map_err x y c x' y' c' A A' n cap n' cap' hd w)
  have S1 := hide (fun w => RSame_any 0 0 0 0 0 0 none none 0 0 0 0 [] [] w (BY.nil _ _ _ (by unfold maxLen; omega)) (BY.nil _ _ _ (by unfold maxLen; omega)))
  rw [show sameB 0 0 0 0 0 0 [] [] = true by decide] at S1
  have W1 := hide (fun w => Within_any x y c x' y' c' b' A A' n cap n' cap' w ⟨0, 0, 0, 0, 0, 0, 0⟩ (dchkZ x y c n x' y' c' n') (fun w1 _ => O1.out w1))
  rw [decide_eq_false (fun q => hd q.1)] at W1
  obtain ⟨f, hf⟩ : ∃ f, dchkZ x y c n x' y' c' n' = f := ⟨_, rfl⟩
  rw [hf] at C1 C2 O1 M1 hd
  have k1 : (f != 0) = true := by simpa using hd
  have hq := fun w => eql_diff ⟨0, 0, 0, 0, 0, 0, 0⟩ ⟨0, 0, 0, 0, 0, 0, 0⟩ w
  rw [decide_eq_true rfl] at hq
  have AL := hide alive13_any
  have KS := Two2.start (x := x) (y := y) (c := c) (x' := x') (y' := y') (c' := c') h h'
  obtain ⟨_, a0, a1, a2, a3, _, _, _, _⟩ := KS.1.four
  obtain ⟨_, b0, b1, b2, b3, _, _, _, _⟩ := KS.2.1.four
  have HKS := hide KS
  clear KS h h' hf hd hn hn'
  go_enter Try.func3, Try.ntmps3
  go_wp2_with fail
  refine (F1.out _).mono ?_
  rintro e w1 ⟨rfl, hb⟩
  have K1 := hide (HKS.out.below hb)
  clear hb a0 a1 a2 a3 b0 b1 b2 b3 HKS
  obtain ⟨_, b0, b1, b2, b3, _, _, _, _⟩ := K1.out.2.1.four
  go_wp2_with fail
  refine (F2.out _).mono ?_
  rintro e w2 ⟨rfl, hb⟩
  have K2 := hide (K1.out.below hb)
  clear hb b0 b1 b2 b3 K1
  obtain ⟨_, a0, a1, a2, a3, _, _, _, _⟩ := K2.out.1.four
  obtain ⟨_, b0, b1, b2, b3, _, _, _, _⟩ := K2.out.2.1.four
  go_wp2_with fail
  refine (O1.out _).mono ?_
  rintro e w3 ⟨rfl, hb⟩
  have K3 := hide (K2.out.below hb)
  clear hb a0 a1 a2 a3 b0 b1 b2 b3 K2
  obtain ⟨_, a0, a1, a2, a3, _, _, _, _⟩ := K3.out.1.four
  obtain ⟨_, b0, b1, b2, b3, _, _, _, _⟩ := K3.out.2.1.four
  have K4 := hide (K3.out.below (below_alloc w3 (.cells #[.int .i64 0, .int .i64 0, .int .u64 0, .int .u64 0, .int .i64 0, .int .i64 0, .int .i64 0] 28)))
  have D4 := hide (Bx.at (w := w3) (g := w3.heap.size) (lD ⟨0, 0, 0, 0, 0, 0, 0⟩) 28 rfl)
  clear K3
  go_wp2_with fail
  refine (M1.out _).mono ?_
  rintro e w4 ⟨rfl, hb⟩
  have K5 := hide (K4.out.below hb)
  have D5 := hide (D4.out.below hb)
  clear hb a0 a1 a2 a3 b0 b1 b2 b3 K4 D4
  obtain ⟨_, a0, a1, a2, a3, _, _, _, _⟩ := K5.out.1.four
  obtain ⟨_, b0, b1, b2, b3, _, _, _, _⟩ := K5.out.2.1.four
  have L5 := below_alloc w4 (.cells #[.int .i64 0, .int .i64 0, .int .i64 0, .slice none 0 0] 24)
  have K6 := hide (K5.out.below L5)
  have D6 := hide (D5.out.below L5)
  have M6 := hide (Bx.at (w := w4) (g := w4.heap.size) noImg 24 rfl)
  clear K5 D5 L5
  go_wp2_with fail
  refine (C1.out _).mono ?_
  rintro e w5 ⟨rfl, hb⟩
  have K7 := hide (K6.out.below hb)
  have D7 := hide (D6.out.below hb)
  have M7 := hide (M6.out.below hb)
  clear hb a0 a1 a2 a3 b0 b1 b2 b3 K6 D6 M6
  obtain ⟨_, a0, a1, a2, a3, _, _, _, _⟩ := K7.out.1.four
  obtain ⟨_, b0, b1, b2, b3, _, _, _, _⟩ := K7.out.2.1.four
  go_wp2_with fail
  refine (C2.out _).mono ?_
  rintro e w6 ⟨rfl, hb⟩
  have K8 := hide (K7.out.below hb)
  have D8 := hide (D7.out.below hb)
  have M8 := hide (M7.out.below hb)
  clear hb a0 a1 a2 a3 b0 b1 b2 b3 K7 D7 M7
  obtain ⟨_, a0, a1, a2, a3, _, _, _, _⟩ := K8.out.1.four
  obtain ⟨_, b0, b1, b2, b3, _, _, _, _⟩ := K8.out.2.1.four
  obtain ⟨_, m0, m1, m2, m3, _, _, _, _⟩ := M8.out.four
  obtain ⟨_, ⟨d0, d1, d2, d3, d4, d5, d6⟩, _⟩ := D8.out.seven
  go_wp2_with fail
  refine (S1.out _).mono ?_
  rintro e w7 ⟨rfl, hb⟩
  have K9 := hide (K8.out.below hb)
  clear hb a0 a1 a2 a3 b0 b1 b2 b3 m0 m1 m2 m3 d0 d1 d2 d3 d4 d5 d6 K8 D8 M8
  obtain ⟨_, a0, a1, a2, a3, _, _, _, _⟩ := K9.out.1.four
  obtain ⟨_, b0, b1, b2, b3, _, _, _, _⟩ := K9.out.2.1.four
  go_wp2_with fail
  refine (W1.out _).mono ?_
  rintro e w8 ⟨rfl, hb⟩
  have L9 := hide (K9.out.below hb).2.2.2.2
  clear hb a0 a1 a2 a3 b0 b1 b2 b3 K9
  go_wp2_with fail
  refine (AL.out _).mono ?_
  rintro e w9 ⟨rfl, hb⟩
  have L10 := hide (L9.out.trans (hb.mono L9.out.size))
  clear hb
  go_wp2_with fail
  go_ret
  exact ⟨rfl, L10.out⟩

end Go.Proofs.Ytbpnnjnkjbpmaaa
