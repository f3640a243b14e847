/-
Contracts of package img's along and Row. No statement is proved here.
-/
import Derived.Test.YtbogckpnajjlmaaPlace7
import Derived.Test.YtbogckpnajjlmaaClone
import Derived.Test.YtbogckpnajjlmaaApp0
namespace Go.Proofs.Ytbogckpnajjlmaa
open Go.RowKit

theorem along_in {x y c n a b k q : Int} (h : hasP x y c n a b k) (q0 : 0 ≤ q) (q1 : a + q ≤ x) : (b * x + a) * c + q * c ≤ n ∧ 0 ≤ q * c ∧ q * c ≤ 16777216 := by
  obtain ⟨_, _, ⟨r1, _⟩, n1⟩ := has_in h
  obtain ⟨h0, h1, h2, h3, h4, h5, h6⟩ := h
  obtain ⟨f, hn⟩ := check_zero h0
  obtain ⟨fc, ⟨x1, x2⟩, ⟨y1, y2⟩, p1, p2⟩ := fits_zero f
  have e1 : (b + 1) * x ≤ y * x := Int.mul_le_mul_of_nonneg_right (by omega) (by omega)
  have e2 : (b + 1) * x = b * x + x := by rw [Int.add_mul, Int.one_mul]
  have e3 : y * x = x * y := Int.mul_comm _ _
  have e5 : (b * x + a + q) * c ≤ (x * y) * c := Int.mul_le_mul_of_nonneg_right (by omega) (by omega)
  have e6 : (b * x + a + q) * c = (b * x + a) * c + q * c := Int.add_mul _ _ _
  have e7 : 0 ≤ q * c := Int.mul_nonneg q0 (by omega)
  exact ⟨by omega, e7, by omega⟩

set_option maxHeartbeats 2000000 in
theorem along_any (x y c : Int) (bb o : Nat) (n cap : Nat) (a b k q : Int) (w : World) (hP : hasP x y c n a b k) (hn : n ≤ cap) (q0 : 1 ≤ q) (q1 : a + q ≤ x) (F L : Nat) (hF : (b * x + a) * c = F) (hL : q * c = L) :
    Calls Try.prog 42 #[.agg #[.int .i64 x, .int .i64 y, .int .i64 c, .slice (some ⟨bb, o, none⟩) n cap], .int .i64 a, .int .i64 b, .int .i64 q] w (Says w (.slice (some ⟨bb, o + F, none⟩) L (cap - F))) := by
  have H0 := below_alloc w (.cells #[.int .i64 x, .int .i64 y, .int .i64 c, .slice (some ⟨bb, o, none⟩) n cap] 24)
  have B0 := Bx.at (w := w) (g := w.heap.size) [.int .i64 x, .int .i64 y, .int .i64 c, .slice (some ⟨bb, o, none⟩) n cap] 24 rfl
  have e0 : [Value.int .i64 x, .int .i64 y, .int .i64 c, .slice (some ⟨bb, o, none⟩) n cap].toArray = #[Value.int .i64 x, .int .i64 y, .int .i64 c, .slice (some ⟨bb, o, none⟩) n cap] := rfl
  rw [e0] at B0
  obtain ⟨_, a0, a1, a2, a3, _, _, _, _⟩ := B0.four
  have HL0 := hide H0
  have HB0 := hide B0
  clear B0 H0
  have P1 := hide (fun w => place_any x y c (some ⟨bb, o, none⟩) n cap a b k w hP)
  obtain ⟨l1, l2, l3⟩ := along_in hP (by omega) q1
  obtain ⟨_, _, ⟨r1, r2⟩, n1⟩ := has_in hP
  have hc1 : 1 ≤ c := by have := hP.2.2.2.2.2; omega
  have hL1 : 1 ≤ q * c := by have : 1 * 1 ≤ q * c := Int.mul_le_mul q0 hc1 (by omega) (by omega); omega
  rw [hF] at P1 l1 r1 r2
  rw [hL] at l1 l2 l3 hL1
  have w1 : IntKind.i64.wrap (q * c) = (L : Int) := by rw [hL]; exact IntWalk.i64_in _ (by omega)
  have w2 : IntKind.i64.wrap ((F : Int) + L) = (F : Int) + L := IntWalk.i64_in _ (by omega)
  have i1 : (0 : Int) ≤ (F : Int) + L := by omega
  have i2 : ((F : Int) + L).toNat = F + L := by omega
  have i3 : (F : Int) ≤ (F : Int) + L := by omega
  have i4 : (F : Int) + L ≤ (cap : Int) := by omega
  have i5 : F + L - F = L := by omega
  have i6 : ¬ cap = F := by omega
  clear hP q0 q1 hF hL l1 l2 l3 r1 r2 n1 hc1 hL1
  go_enter Try.func42, Try.ntmps42
  go_wp2_with fail
  refine (P1.out _).mono ?_
  rintro e w1 ⟨rfl, hb⟩
  have L := hide (HL0.out.trans (hb.mono HL0.out.size))
  obtain ⟨_, g0, g1, g2, g3, _, _, _, _⟩ := (HB0.out.below hb).four
  clear hb a0 a1 a2 a3
  go_wp2_with fail
  go_ret
  exact ⟨rfl, L.out⟩

/-- bytes of one's own, as many as are told -/
def OwnB (w : World) (xs : List Int) (e : Ending) (w' : World) : Prop := ∃ v, e = .returned v ∧ w'.ownsRow w.heap.size 5 1 v xs.length (bytesV xs) ∧ Below w.heap.size w w'
theorem BY.part {w : World} {bb o n cap F L : Nat} {xs : List Int} (h : BY w (some ⟨bb, o, none⟩) n cap xs) (hl : F + L ≤ n) : BY w (some ⟨bb, o + F, none⟩) L (cap - F) ((xs.drop F).take L) := by
  obtain ⟨h1, h2, h3, h4, h5⟩ := h
  refine ⟨by simp; omega, by omega, by omega, fun x hx => h4 x (List.mem_of_mem_drop (List.mem_of_mem_take hx)), fun hp => ?_⟩
  obtain ⟨b', o', e, hlt, hc⟩ := h5 (by omega)
  cases e
  refine ⟨bb, o + F, rfl, hlt, fun i hi => ?_⟩
  have := hc (F + i) (by omega)
  rw [Nat.add_assoc, this]
  simp [List.getD_eq_getElem?_getD, hi]
theorem Clone_any (bb o n cap : Nat) (xs : List Int) (w : World) (h : BY w (some ⟨bb, o, none⟩) n cap xs) (hn : n ≤ 100000000) : Calls Try.prog 48 #[.slice (some ⟨bb, o, none⟩) n cap] w (OwnB w xs) := by
  refine (Any.bytes_Clone_at laysClone ⟨bb, o, none⟩ n cap xs w h.1 (by omega) (fun i hi => ?_)).mono fun e w' ⟨v, he, ho, _, hb⟩ => ⟨v, he, by rw [h.1]; exact ho, hb⟩
  obtain ⟨b', o', e, _, hc⟩ := h.2.2.2.2 (by omega)
  cases e
  have e2 : (⟨bb, o, none⟩ : Addr).add i = ⟨bb, o + i, none⟩ := by unfold Addr.add; split <;> simp_all
  rw [e2]
  exact hc i hi

end Go.Proofs.Ytbogckpnajjlmaa
