/-
Contract of package img's Fill. No statement is proved here.
-/
import Derived.Test.YtfhjdghhgojbkaaFill1
namespace Go.Proofs.Ytfhjdghhgojbkaa
open Go.RowKit

/-- an image of noughts in a block of the call's own, known whole -/
def NewRow (w : World) (x y c : Int) (n : Nat) (e : Ending) (w' : World) : Prop :=
  ∃ g, e = .returned (.tuple #[.agg #[.int .i64 x, .int .i64 y, .int .i64 c, .slice (some ⟨g, 0, none⟩) n n], .int .i64 0]) ∧ w.heap.size ≤ g ∧ RowAt w' g (noughts n) ∧ Below w.heap.size w w'
set_option maxHeartbeats 1000000 in
theorem New_row (x y c : Int) (w : World) (h0 : fitsZ x y c = 0) (n : Nat) (hn : x * y * c = (n : Int)) :
    Calls Try.prog 37 #[.int .i64 x, .int .i64 y, .int .i64 c] w (NewRow w x y c n) := by
  have HS := size_any x y c
  rw [h0] at HS
  obtain ⟨hc, ⟨x1, x2⟩, ⟨y1, y2⟩, p1, p2⟩ := fits_zero h0
  have w1 : wrap64 (x * y) = x * y := IntWalk.wrap64_in _ (by omega)
  have w2 : wrap64 (x * y * c) = (n : Int) := by
    rw [← hn]
    apply IntWalk.wrap64_in
    rcases hc with rfl | rfl | rfl <;> omega
  have hn2 : n ≤ 100000000 := by rcases hc with rfl | rfl | rfl <;> omega
  have hmk := fun (w : World) => run_make_bytes (m := (n : Int)) rfl hn2 w
  clear h0 hc hn x1 x2 y1 y2 p1 p2
  have HK := hide (below_alloc2 w)
  go_enter Try.func37, Try.ntmps37
  go_wp2_with fail
  refine (HS _).mono ?_
  rintro e w1 ⟨rfl, rfl⟩
  go_wp2_with fail
  refine bodyPost_ret (v := .tuple #[.agg #[.int .i64 x, .int .i64 y, .int .i64 c, .slice (some ⟨w.heap.size + 1, 0, none⟩) n n], .int .i64 0]) (by simp [results, Try.results37, go_sem]) rfl ⟨w.heap.size + 1, rfl, by omega, ?_, ?_⟩
  · have := heap_alloc_new (w.alloc (.cells #[.int .i64 x, .int .i64 y, .int .i64 c, .slice (some ⟨w.heap.size + 1, 0, none⟩) n n] 40)) (.cells (noughts n).toArray 5)
    rw [World.size_alloc] at this
    exact this
  · exact HK.out _ _

abbrev noImg' : List Value := [.int .i64 0, .int .i64 0, .int .i64 0, .slice none 0 0]
set_option maxHeartbeats 1000000 in
theorem Fill_bad (x y : Int) (A : Option Addr) (m cap : Nat) (w : World) (h0 : fitsZ x y m ≠ 0) :
    Calls Try.prog 38 #[.int .i64 x, .int .i64 y, .slice A m cap] w (Says w (.tuple #[.agg #[.int .i64 0, .int .i64 0, .int .i64 0, .slice none 0 0], .int .i64 (fitsZ x y m)])) := by
  have HN := hide (fun w => New_bad x y m w h0)
  obtain ⟨z, hz⟩ : ∃ z, fitsZ x y m = z := ⟨_, rfl⟩
  rw [hz] at HN h0 ⊢
  have k1 : (z != 0) = true := by simpa using h0
  clear hz h0
  have HZ := hide (Bx.at (w := w) (g := w.heap.size) noImg' 40 rfl)
  have H := hide (below_alloc w (.cells #[.int .i64 0, .int .i64 0, .int .i64 0, .slice none 0 0] 40))
  go_enter Try.func38, Try.ntmps38
  go_wp2_with fail
  refine (HN.out _).mono ?_
  rintro e w1 ⟨rfl, hb⟩
  obtain ⟨_, z0, z1, z2, z3, f0, f1, f2, f3⟩ := ((HZ.out.below hb).alloc (.cells #[.int .i64 0, .int .i64 0, .int .i64 0, .slice none 0 0] 40)).four
  have L1 := hide ((H.out.trans (hb.mono (by simp))).alloc (by have := hb.size; simp at this; omega) (.cells #[.int .i64 0, .int .i64 0, .int .i64 0, .slice none 0 0] 40))
  clear hb
  go_wp2_with fail
  refine bodyPost_ret (v := .tuple #[.agg #[.int .i64 0, .int .i64 0, .int .i64 0, .slice none 0 0], .int .i64 z]) (by simp [results, Try.results38, go_sem, z0, z1, z2, z3]) rfl ⟨rfl, ?_⟩
  exact below_set4 L1.out (by omega) _ _ _ _

/-- an image of one colour -/
def FillPost (w : World) (x y : Int) (m n N : Nat) (cs : List Int) (e : Ending) (w' : World) : Prop :=
  ∃ g, e = .returned (.tuple #[.agg #[.int .i64 x, .int .i64 y, .int .i64 m, .slice (some ⟨g, 0, none⟩) n n], .int .i64 0]) ∧ w.heap.size ≤ g ∧ Bx w' g (fillL cs m n N) ∧ Below w.heap.size w w'
set_option maxHeartbeats 2000000 in
theorem Fill_ok (x y : Int) (bb o m cap : Nat) (cs : List Int) (n N : Nat) (w : World) (h0 : fitsZ x y m = 0) (hn : x * y * m = (n : Int)) (hN : n = N * m) (h : BY w (some ⟨bb, o, none⟩) m cap cs) :
    Calls Try.prog 38 #[.int .i64 x, .int .i64 y, .slice (some ⟨bb, o, none⟩) m cap] w (FillPost w x y m n N cs) := by
  have HN := hide (fun w => New_row x y m w h0 n hn)
  obtain ⟨hc, _, _, p1, p2⟩ := fits_zero h0
  have hn2 : n ≤ 100000000 := by rcases hc with q | q | q <;> rw [q] at hn <;> omega
  have hm : 1 ≤ m := by omega
  have hbb : bb < w.heap.size := by obtain ⟨b', o', e, hlt, _⟩ := h.2.2.2.2 (by omega); cases e; exact hlt
  have HY := hide (fun w' (hb : Below w.heap.size w w') => h.below hb)
  have HZ := hide (Bx.at (w := w) (g := w.heap.size) noImg' 40 rfl)
  have H := hide (below_alloc w (.cells #[.int .i64 0, .int .i64 0, .int .i64 0, .slice none 0 0] 40))
  have HNN := Lib.hid hN
  clear hc h0 hn h p1 p2 hN
  go_enter Try.func38, Try.ntmps38
  go_wp2_with fail
  refine (HN.out _).mono ?_
  rintro e w1 ⟨g, rfl, hg, hR, hb⟩
  have hg2 : w.heap.size < g := by simp at hg; omega
  have L1 := hide ((H.out.trans (hb.mono (by simp))).alloc (by have := hb.size; simp at this; omega) (.cells #[.int .i64 x, .int .i64 y, .int .i64 m, .slice (some ⟨g, 0, none⟩) n n] 40))
  have Z1 := hide ((HZ.out.below hb).alloc (.cells #[.int .i64 x, .int .i64 y, .int .i64 m, .slice (some ⟨g, 0, none⟩) n n] 40))
  have X1 := hide (Bx.at (w := w1) (g := w1.heap.size) [.int .i64 x, .int .i64 y, .int .i64 m, .slice (some ⟨g, 0, none⟩) n n] 40 rfl)
  have R1 := hide (show RowAt (w1.alloc (.cells #[.int .i64 x, .int .i64 y, .int .i64 m, .slice (some ⟨g, 0, none⟩) n n] 40)) g (noughts n) from (Below.heap_alloc w1 _ g hR.lt).trans hR)
  have hg3 := hR.lt
  have E1 := hide (Each_any x y g n N bb o m cap cs _ R1.out HNN.out hm (HY.out _ L1.out) (by omega) hn2)
  clear hb hR hg HN
  go_wp2_with fail
  refine E1.out.mono ?_
  rintro e w2 ⟨rfl, hg2', hr⟩
  have X2 := (Bx.grown X1.out hg2' (fun e => by injection e with e; omega))
  have Z2 := (Bx.grown Z1.out hg2' (fun e => by injection e with e; omega))
  have L2 := hide (Below.grown L1.out hg2' L1.out.size (fun k hk => by cases hk; omega))
  have HR2 := hide hr.bx
  obtain ⟨_, a0, a1, a2, a3, _, _, _, _⟩ := X2.four
  obtain ⟨_, z0, z1, z2, z3, f0, f1, f2, f3⟩ := Z2.four
  clear hg2' hr X2 Z2
  go_wp2_with fail
  refine bodyPost_ret (v := .tuple #[.agg #[.int .i64 x, .int .i64 y, .int .i64 m, .slice (some ⟨g, 0, none⟩) n n], .int .i64 0]) (by simp [results, Try.results38, go_sem, z0, z1, z2, z3]) rfl ⟨g, rfl, by omega, ?_, ?_⟩
  · exact HR2.out.other4 (by omega) _ _ _ _
  · exact below_set4 L2.out (by omega) _ _ _ _

end Go.Proofs.Ytfhjdghhgojbkaa
