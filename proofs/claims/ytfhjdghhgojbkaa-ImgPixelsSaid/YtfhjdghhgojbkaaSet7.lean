/-
Contract of package img's Set. No statement is proved here.
-/
import Derived.Test.YtfhjdghhgojbkaaRow7
namespace Go.Proofs.Ytfhjdghhgojbkaa
open Go.RowKit

theorem Set_nil (a b k v : Int) (w : World) : Calls Try.prog 42 #[.pointer none, .int .i64 a, .int .i64 b, .int .i64 k, .int .u8 v] w (Says w (.bool false)) := by
  have H := hide (Below.refl w.heap.size w)
  go_enter Try.func42, Try.ntmps42
  go_wp2_with fail
  go_ret
  exact ⟨rfl, H.out⟩

set_option maxHeartbeats 4000000 in
theorem Set_out (g : Nat) (x y c : Int) (A : Option Addr) (n cap : Nat) (a b k v : Int) (w : World) (hg : Bx w g [.int .i64 x, .int .i64 y, .int .i64 c, .slice A n cap]) (hP : ¬ hasP x y c n a b k) :
    Calls Try.prog 42 #[.pointer (some ⟨g, 0, none⟩), .int .i64 a, .int .i64 b, .int .i64 k, .int .u8 v] w (Says w (.bool false)) := by
  have C1 := hide (fun w => has_any x y c A n cap a b k w)
  rw [decide_eq_false hP] at C1
  have H := hide (Below.refl w.heap.size w)
  obtain ⟨_, a0, a1, a2, a3, _, _, _, _⟩ := hg.four
  clear hP hg
  go_enter Try.func42, Try.ntmps42
  go_wp2_with fail
  refine (C1.out _).mono ?_
  rintro e w1 ⟨rfl, hb⟩
  have L := hide hb
  clear hb a0 a1 a2 a3
  go_wp2_with fail
  go_ret
  exact ⟨rfl, L.out⟩

set_option maxHeartbeats 4000000 in
theorem Set_in (g gp : Nat) (x y c : Int) (n cap : Nat) (a b k v : Int) (xs : List Int) (w : World) (hg : Bx w g [.int .i64 x, .int .i64 y, .int .i64 c, .slice (some ⟨gp, 0, none⟩) n cap]) (hp : Bx w gp (bytesV xs)) (hl : xs.length = n) (hne : g ≠ gp) (hP : hasP x y c n a b k) :
    Calls Try.prog 42 #[.pointer (some ⟨g, 0, none⟩), .int .i64 a, .int .i64 b, .int .i64 k, .int .u8 v] w fun e w' => e = .returned (.bool true) ∧ ∃ w1, Bel w w1 ∧ w' = w1.setCell ⟨gp, (atZ x c a b k).toNat, none⟩ (.int .u8 v) := by
  have C1 := hide (fun w => has_any x y c (some ⟨gp, 0, none⟩) n cap a b k w)
  rw [decide_eq_true hP] at C1
  have P1 := hide (fun w => place_any x y c (some ⟨gp, 0, none⟩) n cap a b k w hP)
  obtain ⟨_, _, ⟨r1, r2⟩, n1⟩ := has_in hP
  have hk := hP.2.2.2.2.2
  unfold atZ
  obtain ⟨p, hpp⟩ : ∃ p, (b * x + a) * c = p := ⟨_, rfl⟩
  rw [hpp] at P1 r1 r2 ⊢
  clear hpp
  have i0 : 0 ≤ p + k := by omega
  have i1 : p + k < (n : Int) := by omega
  have hcell := hp.2 (p + k).toNat (.int .u8 (xs.getD (p + k).toNat 0)) (by simp [bytesV, List.getD_eq_getElem?_getD, show (p + k).toNat < xs.length by omega])
  generalize xs.getD (p + k).toNat 0 = u at hcell
  have w4 : IntKind.i64.wrap (p + k) = p + k := IntWalk.i64_in _ (by omega)
  obtain ⟨_, a0, a1, a2, a3, _, _, _, _⟩ := hg.four
  have KC := hide (fun w' (h : Bel w w') => (⟨(hg.below h).four.2.1, (hg.below h).four.2.2.1, (hg.below h).four.2.2.2.1, (hg.below h).four.2.2.2.2.1⟩ : w'.cell? ⟨g, 0, none⟩ = some (.int .i64 x) ∧ w'.cell? ⟨g, 1, none⟩ = some (.int .i64 y) ∧ w'.cell? ⟨g, 2, none⟩ = some (.int .i64 c) ∧ w'.cell? ⟨g, 3, none⟩ = some (.slice (some ⟨gp, 0, none⟩) n cap)))
  have KS := hide (fun w' i u (h : Bel w w') => (⟨((hg.below h).other (i := i) hne u).four.2.1, ((hg.below h).other hne u).four.2.2.1, ((hg.below h).other hne u).four.2.2.2.1, ((hg.below h).other hne u).four.2.2.2.2.1⟩ : (w'.setCell ⟨gp, i, none⟩ u).cell? ⟨g, 0, none⟩ = some (.int .i64 x) ∧ (w'.setCell ⟨gp, i, none⟩ u).cell? ⟨g, 1, none⟩ = some (.int .i64 y) ∧ (w'.setCell ⟨gp, i, none⟩ u).cell? ⟨g, 2, none⟩ = some (.int .i64 c) ∧ (w'.setCell ⟨gp, i, none⟩ u).cell? ⟨g, 3, none⟩ = some (.slice (some ⟨gp, 0, none⟩) n cap)))
  have KD := hide (fun w' (h : Bel w w') => (⟨(Bel.cell h _ hp.1).trans hcell.1, (Bel.frozen h _ hp.1).trans hcell.2⟩ : w'.cell? ⟨gp, (p + k).toNat, none⟩ = some (.int .u8 u) ∧ w'.frozen? ⟨gp, (p + k).toNat, none⟩ = false))
  clear hP hk r1 r2 n1 hp hg hl
  go_enter Try.func42, Try.ntmps42
  go_wp2_with fail
  refine (C1.out _).mono ?_
  rintro e w1 ⟨rfl, hb⟩
  have k1 : Bel w w1 := hb
  clear hb a0 a1 a2 a3 hcell
  obtain ⟨a0, a1, a2, a3⟩ := KC.out _ k1
  go_wp2_with fail
  go_region_held3 (fun w' => w'.cell? ⟨g, 0, none⟩ = some (.int .i64 x) ∧ w'.cell? ⟨g, 1, none⟩ = some (.int .i64 y) ∧ w'.cell? ⟨g, 2, none⟩ = some (.int .i64 c) ∧ w'.cell? ⟨g, 3, none⟩ = some (.slice (some ⟨gp, 0, none⟩) n cap))
    (first
      | (refine KC.out _ ?_; (repeat (first | assumption | exact Bel.refl _ | refine Bel.drew ?_)); done)
      | (refine KS.out _ _ _ ?_; (repeat (first | assumption | exact Bel.refl _ | refine Bel.drew ?_)); done)
      | fail)
    (first
      | (go_at_call 57; refine (P1.out _).mono ?_; rintro e w3 ⟨rfl, hb⟩; have k3 : Bel w w3 := Bel.trans (by repeat (first | assumption | exact Bel.refl _ | refine Bel.drew ?_)) hb; obtain ⟨q1, q2⟩ := KD.out _ k3; clear hb)
      | fail)
  go_wp2_with fail
  go_ret
  exact ⟨rfl, w3, k3, rfl⟩

/-- what Set leaves: the image's bytes, and all else as it was -/
def SetPost (w : World) (gp : Nat) (ys : List Int) (B : Bool) (e : Ending) (w' : World) : Prop :=
  e = .returned (.bool B) ∧ Bx w' gp (bytesV ys) ∧ ∃ w1, Bel w w1 ∧ (w' = w1 ∨ ∃ i u, w' = w1.setCell ⟨gp, i, none⟩ u)
theorem SetPost.box {w w' : World} {gp : Nat} {ys : List Int} {B : Bool} {e : Ending} (h : SetPost w gp ys B e w') {g : Nat} {l : List Value} (k : Bx w g l) (hne : g ≠ gp) : Bx w' g l := by
  obtain ⟨_, _, w1, hb, rfl | ⟨i, u, rfl⟩⟩ := h
  · exact k.below hb
  · exact (k.below hb).other hne u
theorem SetPost.below {w w0 w' : World} {gp b : Nat} {ys : List Int} {B : Bool} {e : Ending} (h : SetPost w gp ys B e w') (k : Below b w0 w) (hb : b ≤ w.heap.size) (hg : b ≤ gp) : Below b w0 w' := by
  obtain ⟨_, _, w1, hb1, rfl | ⟨i, u, rfl⟩⟩ := h
  · exact k.trans (Below.mono hb1 hb)
  · exact (k.trans (Below.mono hb1 hb)).setCell hg u
theorem SetPost.own {w w' : World} {gp : Nat} {ys : List Int} {B : Bool} {e : Ending} (h : SetPost w gp ys B e w') {base m : Nat} {T : TypeId} {v : Value} {zs : List Value} (k : w.ownsRow base T 1 v m zs) (hg : gp < base) : w'.ownsRow base T 1 v m zs := by
  obtain ⟨_, _, w1, hb1, rfl | ⟨i, u, rfl⟩⟩ := h
  · exact own_below k hb1
  · exact (own_below k hb1).kept (row := some gp) ⟨rfl, rfl, rfl, by simp, fun j _ hj => Below.heap_setCell w1 ⟨gp, i, none⟩ u j (fun e => hj (by rw [e]))⟩ (.inr (fun q => by have := ((own_below k hb1).lt gp q).1; omega))
theorem SetPost.size {w w' : World} {gp : Nat} {ys : List Int} {B : Bool} {e : Ending} (h : SetPost w gp ys B e w') : w.heap.size ≤ w'.heap.size := by
  obtain ⟨_, _, w1, hb1, rfl | ⟨i, u, rfl⟩⟩ := h
  · exact Below.size hb1
  · simpa using Below.size hb1
theorem Set_any (g gp : Nat) (x y c : Int) (n cap : Nat) (a b k v : Int) (xs : List Int) (w : World) (hg : Bx w g [.int .i64 x, .int .i64 y, .int .i64 c, .slice (some ⟨gp, 0, none⟩) n cap]) (hp : Bx w gp (bytesV xs)) (hl : xs.length = n) (hne : g ≠ gp) :
    Calls Try.prog 42 #[.pointer (some ⟨g, 0, none⟩), .int .i64 a, .int .i64 b, .int .i64 k, .int .u8 v] w (SetPost w gp (if hasP x y c n a b k then xs.set (atZ x c a b k).toNat v else xs) (decide (hasP x y c n a b k))) := by
  by_cases hP : hasP x y c n a b k
  · rw [if_pos hP, decide_eq_true hP]
    refine (Set_in g gp x y c n cap a b k v xs w hg hp hl hne hP).mono fun e w' ⟨he, w1, hb, hw⟩ => ⟨he, ?_, w1, hb, .inr ⟨_, _, hw⟩⟩
    rw [hw]
    have e1 : bytesV (xs.set (atZ x c a b k).toNat v) = (bytesV xs).set (atZ x c a b k).toNat (.int .u8 v) := by simp [bytesV, List.map_set]
    rw [e1]
    obtain ⟨_, _, ⟨r1, r2⟩, _⟩ := has_in hP
    have hk := hP.2.2.2.2.2
    exact (hp.below hb).set _ (by unfold atZ; simp [bytesV]; omega) _
  · rw [if_neg hP, decide_eq_false hP]
    exact (Set_out g x y c (some ⟨gp, 0, none⟩) n cap a b k v w hg hP).mono fun e w' ⟨he, hb⟩ => ⟨he, hp.below hb, w', hb, .inl rfl⟩

end Go.Proofs.Ytfhjdghhgojbkaa
