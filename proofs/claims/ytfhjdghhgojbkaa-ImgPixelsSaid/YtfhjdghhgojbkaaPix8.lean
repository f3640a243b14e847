/-
The law ImgPixels: its walk, whatever comes. No statement is proved here.
-/
import Derived.Test.YtfhjdghhgojbkaaPix7
namespace Go.Proofs.Ytfhjdghhgojbkaa
open Go.RowKit

set_option maxHeartbeats 1000000 in
set_option maxRecDepth 100000 in
theorem Pixels_many (x y c : Int) (A : Option Addr) (n cap : Nat) (p0 p1 p2 v : Int) (w : World) (hn : decide ((n : Int) ≤ 20000) = false) :
    Calls Try.prog 9 #[.agg #[.int .i64 x, .int .i64 y, .int .i64 c, .slice A n cap], .agg #[.int .i64 p0, .int .i64 p1, .int .i64 p2], .int .u8 v] w (Says w (.bool true)) := by
  have F1 := hide (fun w => Few_any x y c A n cap 20000 w)
  rw [hn] at F1
  have K0 : PixK w x y c A n cap p0 p1 p2 ((w.alloc (.cells #[.int .i64 x, .int .i64 y, .int .i64 c, .slice A n cap] 40)).alloc (.cells #[.int .i64 p0, .int .i64 p1, .int .i64 p2] 50)) :=
    ⟨(Bx.at (w := w) (g := w.heap.size) [.int .i64 x, .int .i64 y, .int .i64 c, .slice A n cap] 40 rfl).alloc _, Bx.at [.int .i64 p0, .int .i64 p1, .int .i64 p2] 50 (by simp), below_alloc2 w _ _⟩
  obtain ⟨_, a0, a1, a2, a3, _, _, _, _⟩ := K0.1.four
  have HK0 := hide K0
  clear K0 hn
  go_enter Try.func9, Try.ntmps9
  go_wp2_with fail
  refine (F1.out _).mono ?_
  rintro e w1 ⟨rfl, hb⟩
  have K1 := hide (HK0.out.below hb)
  clear hb a0 a1 a2 a3 HK0
  go_wp2_with fail
  go_ret
  exact ⟨rfl, K1.out.2.2⟩

theorem ImgPixels_walk (x y c : Int) (A : Option Addr) (n cap : Nat) (xs : List Int) (p0 p1 p2 v : Int) (w : World) (h : BY w A n cap xs) :
    Calls Try.prog 9 #[.agg #[.int .i64 x, .int .i64 y, .int .i64 c, .slice A n cap], .agg #[.int .i64 p0, .int .i64 p1, .int .i64 p2], .int .u8 v] w (Says w (.bool true)) := by
  by_cases hn : (n : Int) ≤ 20000
  · have hl := h.1
    refine Pixels_in x y c A n cap xs p0 p1 p2 v w h (by omega) _ _ _ _ _ _ (fun w => RPlace_any x y c A n cap p0 p1 p2 w) (fun w' hb => At_any x y c A n cap xs p0 p1 p2 w' (h.below hb))
      (fun g gp cp w' hg hp hne => Set_any g gp x y c n cp p0 p1 p2 v xs w' hg hp hl hne) (fun gp cp w' hb => Row_any x y c (some ⟨gp, 0, none⟩) n cp xs p1 w' hb) (fun w => RPlace_any x y c A n cap 0 p1 0 w) ?_ ?_ ?_ ?_ ?_
    · by_cases hP : hasP x y c n p0 p1 p2
      · obtain ⟨_, _, ⟨r1, r2⟩, n1⟩ := has_in hP
        have hk := hP.2.2.2.2.2
        left
        unfold placeZ
        rw [if_pos hP, if_pos hP]
        refine ⟨decide_eq_true hP, ?_, ?_, rfl⟩ <;> unfold atZ <;> omega
      · right
        unfold placeZ
        rw [if_neg hP, if_neg hP]
        exact ⟨decide_eq_false hP, rfl, rfl⟩
    · split <;> simp [hl]
    · intro i hi
      by_cases hP : hasP x y c n p0 p1 p2
      · obtain ⟨_, _, ⟨r1, r2⟩, n1⟩ := has_in hP
        have hk := hP.2.2.2.2.2
        unfold placeZ
        rw [if_pos hP, if_pos hP]
        have h0 : 0 ≤ atZ x c p0 p1 p2 := by unfold atZ; omega
        by_cases he : (i : Int) = atZ x c p0 p1 p2
        · rw [if_pos he, ← he, Int.toNat_natCast]
          simp [List.getD_eq_getElem?_getD, show i < xs.length by omega]
        · rw [if_neg he, List.getD_eq_getElem?_getD, List.getElem?_set_ne (by omega), List.getD_eq_getElem?_getD]
      · unfold placeZ
        rw [if_neg hP, if_neg hP, if_neg (by omega)]
    · by_cases hQ : hasP x y c n 0 p1 0
      · right
        obtain ⟨l1, l2, l3⟩ := along_in (q := x) hQ (by have := hQ.2.2.1; omega) (by omega)
        obtain ⟨_, _, ⟨r1, r2⟩, n1⟩ := has_in hQ
        unfold placeZ rowL
        rw [if_pos hQ, if_pos hQ]
        unfold atZ
        obtain ⟨F, hF⟩ : ∃ F : Nat, (p1 * x + 0) * c = F := ⟨((p1 * x + 0) * c).toNat, by omega⟩
        obtain ⟨L, hL⟩ : ∃ L : Nat, x * c = L := ⟨(x * c).toNat, by omega⟩
        rw [hF] at l1 ⊢
        rw [hL] at l1 ⊢
        simp only [Int.toNat_natCast, Int.add_zero]
        have hlen : (List.take L (List.drop F xs)).length = L := by simp; omega
        rw [hlen]
        refine ⟨by omega, rfl, by omega, fun i hi => ?_⟩
        simp [List.getD_eq_getElem?_getD, hi]
      · left
        unfold placeZ rowL
        rw [if_neg hQ, if_neg hQ]
        exact ⟨by omega, rfl⟩
    · intro z hz
      unfold rowL at hz
      split at hz
      · exact h.2.2.2.1 z (List.mem_of_mem_drop (List.mem_of_mem_take hz))
      · cases hz
  · exact Pixels_many x y c A n cap p0 p1 p2 v w (by simpa using hn)

end Go.Proofs.Ytfhjdghhgojbkaa
