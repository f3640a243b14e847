/-
Contracts of the reference's whole numbers: made, Neg, Uns, Of. No statement is proved here.
-/
import Derived.Test.YtehkccogbgjcaaaBig2
import Derived.Deep.RegionHeld3
import Derived.Deep.DeepFit
namespace Go.Proofs.Ytehkccogbgjcaaa
open Go.RowKit

/-- the value of a number of sign s and digits that read v -/
def BV (w : World) (N : Nat) (s : Bool) (A : Option Addr) (n c : Nat) (z : Int) : Prop :=
  ∃ v : Nat, NW w N A n c v ∧ (s = true → v ≠ 0) ∧ z = (if s = true then -(v : Int) else (v : Int))
theorem BV.below {w w' : World} {N : Nat} {s : Bool} {A : Option Addr} {n c : Nat} {z : Int} (h : BV w N s A n c z) (hb : Below w.heap.size w w') : BV w' N s A n c z := by
  obtain ⟨v, h1, h2⟩ := h
  exact ⟨v, h1.below hb, h2⟩
theorem BV.more {w : World} {N M : Nat} {s : Bool} {A : Option Addr} {n c : Nat} {z : Int} (h : BV w N s A n c z) (hM : N ≤ M) : BV w M s A n c z := by
  obtain ⟨v, h1, h2⟩ := h
  exact ⟨v, h1.more hM, h2⟩
theorem BV.tight {w : World} {N M : Nat} {s : Bool} {A : Option Addr} {n c : Nat} {z : Int} (h : BV w N s A n c z) (hM : z.natAbs < 32768 ^ M) : BV w M s A n c z := by
  obtain ⟨v, h1, h2, rfl⟩ := h
  refine ⟨v, h1.tight ?_, h2, rfl⟩
  split at hM <;> omega

/-- what a call that answers a whole number leaves -/
def MadeB (w : World) (N : Nat) (z : Int) (e : Ending) (w' : World) : Prop := ∃ s A n c, e = .returned (.agg #[.bool s, .slice A n c]) ∧ BV w' N s A n c z ∧ Below w.heap.size w w'
theorem MadeB.more {w : World} {N M : Nat} {z : Int} {e : Ending} {w' : World} (h : MadeB w N z e w') (hM : N ≤ M) : MadeB w M z e w' := by
  obtain ⟨s, A, n, c, h1, h2, h3⟩ := h
  exact ⟨s, A, n, c, h1, h2.more hM, h3⟩

theorem NW.zero {w : World} {N : Nat} {A : Option Addr} {n c v : Nat} (h : NW w N A n c v) : v = 0 ↔ n = 0 := by
  obtain ⟨l, h1, h2, h3, h4, h5⟩ := h
  rw [← h4, ← h1.1]; exact h3.zero

theorem BV.of_made {w w' : World} {N : Nat} {b : Bool} {A : Option Addr} {n c v : Nat} (h : NW w N A n c v) (hb : Below w.heap.size w w') : BV w' N (b && decide (0 < n)) A n c (if b = true then -(v : Int) else v) := by
  have hz := h.zero
  refine ⟨v, h.below hb, ?_, ?_⟩
  · intro h1; simp at h1; omega
  · cases b
    · simp
    · simp
      intro h0; subst h0; have := hz.2 rfl; omega

set_option maxHeartbeats 400000 in
theorem made_any (N : Nat) (b : Bool) (A : Option Addr) (n c v : Nat) (w : World) (h : NW w N A n c v) :
    Calls Try.prog 80 #[.bool b, .slice A n c] w (MadeB w N (if b = true then -(v : Int) else v)) := by
  have H := hide fun (w' : World) => BV.of_made (b := b) (w' := w') h
  have hl : n ≤ 9223372036854775807 := by obtain ⟨l, h1, _⟩ := h; have := h1.2.1; have := h1.2.2.1; unfold maxLen at this; omega
  clear h
  cases b
  · go_enter Try.func80, Try.ntmps80
    go_wp2
    refine bodyPost_ret (v := .agg #[.bool false, .slice A n c]) (by simp [results, Try.results80, go_sem]) rfl ⟨_, _, _, _, rfl, H.out _ ?_, ?_⟩
    all_goals exact (Below.refl _ _).alloc (Nat.le_refl _) _
  · rcases Nat.eq_zero_or_pos n with h0 | h0
    · subst h0
      go_enter Try.func80, Try.ntmps80
      go_wp2
      refine bodyPost_ret (v := .agg #[.bool false, .slice A 0 c]) (by simp [results, Try.results80, go_sem]) rfl ⟨_, _, _, _, rfl, H.out _ ?_, ?_⟩
      all_goals exact (Below.refl _ _).alloc (Nat.le_refl _) _
    · have hd : decide (0 < n) = true := by simpa using h0
      go_enter Try.func80, Try.ntmps80
      go_wp2
      refine bodyPost_ret (v := .agg #[.bool true, .slice A n c]) (by simp [results, Try.results80, go_sem]) rfl ⟨_, _, _, _, by rw [hd]; rfl, H.out _ ?_, ?_⟩
      all_goals exact (Below.refl _ _).alloc (Nat.le_refl _) _

/-- a block that is no row of int -/
def Box (w : World) (g : Nat) : Prop := ∃ cs t fr, w.heap[g]? = some (.cells cs t fr) ∧ t ≠ 3
theorem Box.new (w : World) (cs : Array Value) (t : TypeId) (ht : t ≠ 3) : Box (w.alloc (.cells cs t)) w.heap.size := ⟨cs, t, (0, 0), heap_alloc_new w _, ht⟩
theorem Box.below {w w' : World} {g : Nat} (h : Box w g) (hb : Below w.heap.size w w') : Box w' g := by
  obtain ⟨cs, t, fr, h1, h2⟩ := h
  exact ⟨cs, t, fr, by rw [hb.block _ (heap_lt h1)]; exact h1, h2⟩
theorem Box.set_ {w : World} {g : Nat} (h : Box w g) (b i : Nat) (u : Value) : Box (w.setCell ⟨b, i, none⟩ u) g := by
  obtain ⟨cs, t, fr, h1, h2⟩ := h
  by_cases e : g = b
  · subst e
    exact ⟨cs.setIfInBounds i u, t, fr, by simp [World.setCell, Array.getElem?_modify, h1], h2⟩
  · exact ⟨cs, t, fr, by rw [Below.heap_setCell w ⟨b, i, none⟩ u g e]; exact h1, h2⟩
theorem NW.boxed {w : World} {N : Nat} {A : Option Addr} {n c v : Nat} (h : NW w N A n c v) {g : Nat} (hg : Box w g) (i : Nat) (u : Value) : NW (w.setCell ⟨g, i, none⟩ u) N A n c v := by
  obtain ⟨l, h1, h2⟩ := h
  obtain ⟨cs, t, fr, h3, h4⟩ := hg
  exact ⟨l, h1.setCell (h1.2.2.2.2.ne_ h3 h4) u, h2⟩
theorem BV.boxed {w : World} {N : Nat} {s : Bool} {A : Option Addr} {n c : Nat} {z : Int} (h : BV w N s A n c z) {g : Nat} (hg : Box w g) (i : Nat) (u : Value) : BV (w.setCell ⟨g, i, none⟩ u) N s A n c z := by
  obtain ⟨v, h1, h2⟩ := h
  exact ⟨v, h1.boxed hg i u, h2⟩
theorem MadeB.fin {w w1 : World} {N : Nat} {s : Bool} {A : Option Addr} {n c : Nat} {z : Int} {g : Nat} (hb : Below w.heap.size w w1) (hg : w.heap.size ≤ g) (hx : Box w1 g) (h : BV w1 N s A n c z) (u v : Value) :
    MadeB w N z (.returned (.agg #[.bool s, .slice A n c])) ((w1.setCell ⟨g, 0, none⟩ u).setCell ⟨g, 1, none⟩ v) :=
  ⟨s, A, n, c, rfl, (h.boxed hx 0 u).boxed (hx.set_ _ _ _) 1 v, (hb.setCell hg u).setCell hg v⟩

set_option maxHeartbeats 400000 in
theorem Neg_any (N : Nat) (s : Bool) (A : Option Addr) (n c : Nat) (z : Int) (w : World) (h : BV w N s A n c z) :
    Calls Try.prog 82 #[.agg #[.bool s, .slice A n c]] w (MadeB w N (-z)) := by
  obtain ⟨v, h1, h2, h3⟩ := h
  have hN := fun (o o' : Obj) => h1.below (below_alloc2 w o o')
  have HZ := Lib.hid (show (if (!s) = true then -(v : Int) else (v : Int)) = -z by subst h3; cases s <;> simp)
  have H1 := hide hN
  have H2 := hide (below_alloc2 w)
  clear h1 h2 h3 hN
  go_enter Try.func82, Try.ntmps82
  go_wp2_with fail
  refine (made_any N (!s) A n c v _ (H1.out _ _)).mono ?_
  rintro e w1 ⟨s', A', n', c', rfl, hB, hb⟩
  obtain ⟨hc, hf⟩ := bcell hb
  have hz := hb.size
  simp at hz
  rw [HZ.out] at hB
  have HB := hide hB
  have Hb := hide hb
  have HX := hide ((Box.new _ _ _ (by decide)).below hb)
  simp at HX
  clear hB hb
  go_wp2_with fail
  refine bodyPost_ret (v := .agg #[.bool s', .slice A' n' c']) (by simp [results, Try.results82, go_sem, hc]) rfl ?_
  exact MadeB.fin ((H2.out _ _).trans (Hb.out.mono (by simp; omega))) (by omega) HX.out HB.out _ _

def UnsRel (w : World) (x0 : Nat) (v x : Value) (wr : World) : Prop :=
  ∃ (k X : Nat) (o : List Nat), k ≤ 5 ∧ x = .int .u64 X ∧ X ≤ x0 ∧ o.length = k ∧ Dig o ∧ val o + X * 32768 ^ k = x0 ∧ (X = 0 → Norm o) ∧
    wr.ownsRow w.heap.size 3 1 v k (dv o) ∧ Below w.heap.size w wr
theorem uns_k {k X x0 y : Nat} (hX : 0 < X) (hx : x0 < 18446744073709551616) (h : y + X * 32768 ^ k = x0) : k ≤ 4 := by
  have h1 : 1 * 32768 ^ k ≤ X * 32768 ^ k := Nat.mul_le_mul_right _ hX
  by_cases hk : k ≤ 4
  · exact hk
  · have h2 : 32768 ^ 5 ≤ 32768 ^ k := Nat.pow_le_pow_right (by omega) (by omega)
    have h3 : (32768 : Nat) ^ 5 = 37778931862957161709568 := by decide
    omega
theorem UnsRel.step {w wr w1 : World} {x0 k X : Nat} {o : List Nat} {v v' : Value} (u : Array Value) (hx : x0 < 18446744073709551616) (hX : 0 < X) (hle : X ≤ x0) (hl : o.length = k) (hd : Dig o) (hv : val o + X * 32768 ^ k = x0)
    (hown : wr.ownsRow w.heap.size 3 1 v k (dv o)) (hb : Below w.heap.size w wr)
    (hown' : w1.ownsRow w.heap.size 3 1 v' (k + 1) (dv o ++ [.int .i64 ((X : Int) % 32768)])) (hg : (wr.alloc (.cells u 3)).grownBy w1 v.ownBlock) :
    UnsRel w x0 v' (.int .u64 ((X : Int) / 32768)) w1 := by
  have hk := uns_k hX hx hv
  rw [show (X : Int) % 32768 = ((X % 32768 : Nat) : Int) by omega, ← dv_snoc] at hown'
  refine ⟨k + 1, X / 32768, _, by omega, by rw [show (X : Int) / 32768 = ((X / 32768 : Nat) : Int) by omega], by omega, by rw [List.length_append, List.length_singleton, hl], Dig_snoc hd (by omega), ?_, ?_, hown', ?_⟩
  · rw [val_snoc, hl, Nat.pow_succ, ← hv, Nat.mul_comm (32768 ^ k) 32768, ← Nat.mul_assoc, Nat.add_assoc, ← Nat.add_mul]
    congr 2; omega
  · intro h0 j hj
    rw [List.length_append, List.length_singleton] at hj
    have : j = o.length := by omega
    subst this
    rw [dgn_snoc]; omega
  · exact (hb.alloc hb.size _).grown hg (by have := hb.size; simp; omega) (own_lt hown)

set_option maxHeartbeats 1000000 in
set_option maxRecDepth 100000 in
theorem Uns_any (x : Nat) (w : World) (hx : x < 18446744073709551616) :
    Calls Try.prog 49 #[.int .u64 x] w (MadeB w 5 x) := by
  obtain ⟨i0, hi, hz0, hz1, hz2⟩ := info_parts infoInt
  have Hx := hide hx
  have hx2 : (x : Int) ≤ 18446744073709551615 := by omega
  clear hx
  go_enter Try.func49, Try.ntmps49
  go_wp2
  go_loopw [3, 0] (fun v y wr => UnsRel (w.alloc (.cells #[.bool false, .slice none 0 0] 24)) x v y wr) (fun _ y _ => (intOf y).toNat)
  case atStart => exact ⟨0, x, [], by omega, rfl, Nat.le_refl _, rfl, Dig_nil, by simp [val_nil], fun _ => Norm_nil, World.ownsRow_nil _ _ _ _, Below.refl _ _⟩
  case round =>
    obtain ⟨k, X, o, hk, rfl, hle, hl, hd, hv, hn, hown, hbl⟩ := hrel
    have Hl := Lib.hid hl
    have Hv := Lib.hid hv
    have Hd := hide hd
    have Hn := hide hn
    have hX2 : (X : Int) ≤ 18446744073709551615 := by omega
    clear hl hv hd hn
    by_cases h0 : 0 < X
    · go_wp2_with (first
        | (at_builtin; refine wpList_append_own _ rfl _ _ 22 rfl _ 3 i0 (.int .i64 0) 1 8 Try.underlying22 hi hz0 hz1 hz2 rfl (by decide) _ _ _ rfl (hown.alloc _) ⟨wr.heap.size, 0, none⟩ 1 1 [.int .i64 ((X : Int) % 32768)] rfl rfl ?c1 ?c2 ?c3 ?c4 ?c5 ?_))
      case c1 =>
        intro j u hj
        match j, hj with
        | 0, hj => simp at hj; subst hj; simp [Addr.add]
      case c2 => intro u hu; simp at hu; subst hu; rfl
      case c3 => unfold maxLen; omega
      case c4 => omega
      case c5 => have := hbl.size; simp at this ⊢; omega
      · intro v' w1 hown' hgrow _
        have hr := hide (UnsRel.step _ Hx.out h0 hle Hl.out Hd.out Hv.out hown hbl (by simpa using hown') hgrow)
        clear hown' hgrow hown
        go_wp2
        go_roundw
        case rel => exact hr.out
        case measure => simp [intOf]; omega
    · have h00 : X = 0 := by omega
      subst h00
      obtain ⟨A1, c1, rfl⟩ := own_slice hown
      have HB := hide (show BV wr 5 false A1 k c1 x from ⟨x, ⟨o, DW.of_own hown, Hd.out, Hn.out rfl, by rw [← Hv.out]; omega, by omega⟩, by simp, by simp⟩)
      obtain ⟨hc, hf⟩ := bcell hbl
      have hz := hbl.size
      simp at hz
      have HX := hide ((Box.new w _ _ (by decide)).below hbl)
      have Hb := hide hbl
      clear hown hbl
      go_wp2
      refine bodyPost_ret (v := .agg #[.bool false, .slice A1 k c1]) (by simp [results, Try.results49, go_sem, hc]) rfl ?_
      exact MadeB.fin ((below_alloc w _).trans (Hb.out.mono (by simp))) (Nat.le_refl _) HX.out HB.out _ _

theorem BV.flip {w : World} {N X : Nat} {s : Bool} {A : Option Addr} {n c : Nat} (h : BV w N s A n c ((X + 1 : Nat) : Int)) : BV w N true A n c (-((X : Int) + 1)) := by
  obtain ⟨v, h1, h2, h3⟩ := h
  cases s
  · exact ⟨v, h1, fun _ => by simp at h3; omega, by simp at h3 ⊢; omega⟩
  · simp at h3; omega

set_option maxHeartbeats 1000000 in
set_option maxRecDepth 100000 in
theorem Of_any (x : Int) (w : World) (h1 : -9223372036854775808 ≤ x) (h2 : x ≤ 9223372036854775807) :
    Calls Try.prog 11 #[.int .i64 x] w (MadeB w 5 x) := by
  by_cases h0 : 0 ≤ x
  · obtain ⟨X, rfl⟩ := Int.eq_ofNat_of_zero_le h0
    go_enter Try.func11, Try.ntmps11
    go_wp2_with fail
    refine (Uns_any X _ (by omega)).mono ?_
    rintro e w1 ⟨s', A', n', c', rfl, hB, hb⟩
    obtain ⟨hc, hf⟩ := bcell hb
    have hz := hb.size
    simp at hz
    have HB := hide hB
    have HX := hide ((Box.new w _ _ (by decide)).below hb)
    have Hb := hide hb
    clear hB hb
    go_wp2_with fail
    refine bodyPost_ret (v := .agg #[.bool s', .slice A' n' c']) (by simp [results, Try.results11, go_sem, hc]) rfl ?_
    exact MadeB.fin ((below_alloc w _).trans (Hb.out.mono (by simp))) (Nat.le_refl _) HX.out HB.out _ _
  · obtain ⟨X, hX⟩ : ∃ X : Nat, x = -((X : Int) + 1) := ⟨(-x - 1).toNat, by omega⟩
    subst hX
    have HZ := Lib.hid (show (-(-((X : Int) + 1) + 1) + 1 : Int) = ((X + 1 : Nat) : Int) by omega)
    have hX : (X : Int) ≤ 9223372036854775807 := by omega
    have HX0 := hide (show X + 1 < 18446744073709551616 by omega)
    clear h1 h2 h0
    go_enter Try.func11, Try.ntmps11
    go_wp2_with fail
    rw [HZ.out]
    clear hX
    refine (Uns_any (X + 1) _ HX0.out).mono ?_
    rintro e w1 ⟨s', A', n', c', rfl, hB, hb⟩
    obtain ⟨hc, hf⟩ := bcell hb
    have hfa := bfrozen hb
    have hca := bcell1 hb
    have hz := hb.size
    simp at hz
    have HB := hide (hB.flip.below (below_alloc w1 (.cells #[.bool true, .slice A' n' c'] 24)))
    have HX := hide (((Box.new w _ _ (by decide)).below hb).below (below_alloc w1 (.cells #[.bool true, .slice A' n' c'] 24)))
    have Hb := hide hb
    clear hB hb
    go_wp2_with fail
    refine bodyPost_ret (v := .agg #[.bool true, .slice A' n' c']) (by simp [results, Try.results11, go_sem, hca]) rfl ?_
    exact MadeB.fin (((below_alloc w _).trans (Hb.out.mono (by simp))).alloc (by omega) _) (Nat.le_refl _) HX.out HB.out _ _

end Go.Proofs.Ytehkccogbgjcaaa
