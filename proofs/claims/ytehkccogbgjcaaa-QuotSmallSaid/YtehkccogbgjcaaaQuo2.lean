/-
Contracts of the second reference: Floor, Left, Near. No statement is proved here.
-/
import Derived.Test.YtehkccogbgjcaaaFlo3
import Derived.Test.YtehkccogbgjcaaaQuo1
namespace Go.Proofs.Ytehkccogbgjcaaa
open Go.RowKit

def MadeP (w : World) (N : Nat) (z : Int) (b : Bool) (e : Ending) (w' : World) : Prop := ∃ s A n c, e = .returned (.tuple #[.agg #[.bool s, .slice A n c], .bool b]) ∧ BV w' N s A n c z ∧ Below w.heap.size w w'

/-- the world in which a call of one number, that tells one, begins -/
def Two (w : World) (s : Bool) (A : Option Addr) (n c : Nat) : World := (w.alloc (.cells #[.bool s, .slice A n c] 24)).alloc (.cells #[.bool false, .slice none 0 0] 24)
theorem Two.below (w : World) (s : Bool) (A : Option Addr) (n c : Nat) : Below w.heap.size w (Two w s A n c) := below_alloc2 w _ _
theorem Two.size (w : World) (s : Bool) (A : Option Addr) (n c : Nat) : (Two w s A n c).heap.size = w.heap.size + 2 := by simp [Two]
theorem Two.start (w : World) (s : Bool) (A : Option Addr) (n c : Nat) : Bel (Two w s A n c) ((w.alloc (.cells #[.bool s, .slice A n c] 24)).alloc (.cells #[.bool false, .slice none 0 0] 24)) := Bel.refl _
theorem Two.cells (w : World) (s : Bool) (A : Option Addr) (n c : Nat) (w' : World) (h : Bel (Two w s A n c) w') :
    w'.cell? ⟨w.heap.size, 0, none⟩ = some (.bool s) ∧ w'.cell? ⟨w.heap.size, 1, none⟩ = some (.slice A n c) ∧ w'.cell? ⟨w.heap.size + 1, 0, none⟩ = some (.bool false) ∧ w'.cell? ⟨w.heap.size + 1, 1, none⟩ = some (.slice none 0 0) ∧
      w'.frozen? ⟨w.heap.size + 1, 0, none⟩ = false ∧ w'.frozen? ⟨w.heap.size + 1, 1, none⟩ = false := by
  obtain ⟨hc, hf⟩ := bcell h
  have hz := Two.size w s A n c
  refine ⟨?_, ?_, ?_, ?_, ?_, ?_⟩
  · rw [hc _ _ (by omega)]; simp [Two, go_sem]
  · rw [hc _ _ (by omega)]; simp [Two, go_sem]
  · rw [hc _ _ (by omega)]; simp [Two, go_sem]
  · rw [hc _ _ (by omega)]; simp [Two, go_sem]
  · rw [hf _ _ (by omega)]; simp [Two, go_sem]
  · rw [hf _ _ (by omega)]; simp [Two, go_sem]
theorem Two.args (w : World) (s : Bool) (A : Option Addr) (n c : Nat) (w' : World) (h : Bel (Two w s A n c) w') :
    w'.cell? ⟨w.heap.size, 0, none⟩ = some (.bool s) ∧ w'.cell? ⟨w.heap.size, 1, none⟩ = some (.slice A n c) :=
  ⟨(Two.cells w s A n c w' h).1, (Two.cells w s A n c w' h).2.1⟩
theorem Two.after (w : World) (s : Bool) (A : Option Addr) (n c : Nat) (w' : World) (u v : Value) (h : Bel (Two w s A n c) w') :
    ((w'.setCell ⟨w.heap.size + 1, 0, none⟩ u).setCell ⟨w.heap.size + 1, 1, none⟩ v).cell? ⟨w.heap.size, 0, none⟩ = some (.bool s) ∧ ((w'.setCell ⟨w.heap.size + 1, 0, none⟩ u).setCell ⟨w.heap.size + 1, 1, none⟩ v).cell? ⟨w.heap.size, 1, none⟩ = some (.slice A n c) := by
  have h := Two.args w s A n c w' h
  exact ⟨cell_far (by omega) h.1, cell_far (by omega) h.2⟩
theorem Two.box (w : World) (s : Bool) (A : Option Addr) (n c : Nat) (w' : World) (h : Bel (Two w s A n c) w') : Box w' (w.heap.size + 1) := by
  have := (Box.new (w.alloc (.cells #[.bool s, .slice A n c] 24)) #[.bool false, .slice none 0 0] 24 (by decide)).below h
  simpa using this

set_option maxHeartbeats 1000000 in
theorem RFloor_yes (N : Nat) (hN : N ≤ 10000) (h5 : 5 ≤ N) (s : Bool) (A : Option Addr) (n c : Nat) (z b : Int) (w : World) (h : BV w N s A n c z) (hb : -9223372036854775808 ≤ b ∧ b ≤ 9223372036854775807) (h0 : b ≠ 0) :
    Calls Try.prog 15 #[.agg #[.bool s, .slice A n c], .int .i64 b] w (MadeP w (N + 6) (Int.fdiv z b) true) := by
  have hb0 : (b == 0) = false := by simpa using h0
  have HO := hide (fun w => Of_any b w hb.1 hb.2)
  have HF := hide (fun (s1 : Bool) (A' : Option Addr) (n' c' : Nat) (w : World) (h1 : BV w N s A n c z) (h2 : BV w N s1 A' n' c' b) => Floor_any N (by omega) s s1 A A' n n' c c' z b w h1 h2 h0)
  have HV := hide fun w' (hb : Bel (Two w s A n c) w') => h.below ((Two.below _ _ _ _ _).trans (Below.mono hb (by rw [Two.size]; omega)))
  have HS := hide (Two.cells w s A n c)
  have HX := hide (Two.box w s A n c)
  have H4 := hide (Two.args w s A n c)
  have H5 := hide (Two.after w s A n c)
  have HB := hide fun w' (hb : Bel (Two w s A n c) w') => (Two.below w s A n c).trans (Below.mono hb (by rw [Two.size]; omega))
  clear h hb h0
  go_enter Try.func15, Try.ntmps15
  go_wp2_with fail
  go_region_held3 (fun w' => w'.cell? ⟨w.heap.size, 0, none⟩ = some (.bool s) ∧ w'.cell? ⟨w.heap.size, 1, none⟩ = some (.slice A n c))
    (first | (refine H4.out _ ?_; first | assumption | exact Two.start _ _ _ _ _ | (refine Bel.drew ?_; assumption) | exact Bel.drew (Two.start _ _ _ _ _)) | (refine H5.out _ _ _ ?_; assumption))
    (first
      | (go_at_call 11; refine (HO.out _).mono ?_; rintro e w1 ⟨s1, A1, n1, c1, rfl, hB1, hb1⟩; have hk1 : Bel (Two w s A n c) w1 := Bel.trans (by first | assumption | exact Two.start _ _ _ _ _ | (refine Bel.drew ?_; assumption) | exact Bel.drew (Two.start _ _ _ _ _)) hb1)
      | (go_at_call 51; refine (HF.out _ _ _ _ _ (HV.out _ hk1) (hB1.more h5)).mono ?_; rintro e w2 ⟨s2, A2, n2, c2, rfl, hB2, hb2⟩; have hk2 : Bel (Two w s A n c) w2 := Bel.trans hk1 hb2; obtain ⟨r1, r2, r3, r4, r5, r6⟩ := HS.out _ hk2))
  have HB2 := hide hB2
  have HK2 := hide hk2
  clear hB2 hk2
  go_wp2_with fail
  refine bodyPost_ret (v := .tuple #[.agg #[.bool s2, .slice A2 n2 c2], .bool true]) (by simp [results, Try.results15, go_sem, r3, r4]) rfl ?_
  obtain ⟨t1, t2, t3, t4, e1, e2, e3⟩ := MadeB.fin (HB.out _ HK2.out) (Nat.le_succ _) (HX.out _ HK2.out) HB2.out (.bool s2) (.slice A2 n2 c2)
  injection e1 with e1
  injection e1 with e1
  exact ⟨_, _, _, _, rfl, by simp_all, e3⟩

set_option maxHeartbeats 1000000 in
theorem RFloor_no (s : Bool) (A : Option Addr) (n c : Nat) (w : World) :
    Calls Try.prog 15 #[.agg #[.bool s, .slice A n c], .int .i64 0] w (MadeP w 0 0 false) := by
  have HB := hide (Two.below w s A n c)
  go_enter Try.func15, Try.ntmps15
  go_wp2_with fail
  refine bodyPost_ret (v := .tuple #[.agg #[.bool false, .slice none 0 0], .bool false]) (by simp [results, Try.results15, go_sem]) rfl ?_
  exact ⟨_, _, _, _, rfl, ⟨0, NW.nil _ 0, by simp, by simp⟩, HB.out⟩
end Go.Proofs.Ytehkccogbgjcaaa
