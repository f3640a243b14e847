/-
The law ImgMade: its walk. No statement is proved here.
-/
import Derived.Test.YtfhjdghhgojbkaaFill2
import Derived.Test.YtfhjdghhgojbkaaImg4
import Derived.RegionTactic
import Derived.Outline
namespace Go.Proofs.Ytfhjdghhgojbkaa
open Go.RowKit

set_option maxHeartbeats 4000000 in
set_option maxRecDepth 100000 in
/-- what there is no image of -/
theorem Made_bad (x y : Int) (A : Option Addr) (m cap : Nat) (w : World) (h0 : fitsZ x y m ≠ 0) :
    Calls Try.prog 8 #[.int .i64 x, .int .i64 y, .slice A m cap] w (Says w (.bool true)) := by
  have F1 := hide (fun w => Fits_any x y m w)
  have N1 := hide (fun w => New_bad x y m w h0)
  have P1 := hide (fun w => Fill_bad x y A m cap w h0)
  have S1 := hide (fun w => RSame_any 0 0 0 0 0 0 none none 0 0 0 0 [] [] w (BY.nil _ _ _ (by unfold maxLen; omega)) (BY.nil _ _ _ (by unfold maxLen; omega)))
  rw [show sameB 0 0 0 0 0 0 [] [] = true by decide] at S1
  have AL := hide alive7_any
  have H := hide (Below.refl w.heap.size w)
  obtain ⟨f, hf⟩ : ∃ f, fitsZ x y m = f := ⟨_, rfl⟩
  rw [hf] at F1 N1 P1 h0
  have k1 : (f == 0) = false := by rw [beq_eq_false_iff_ne]; exact h0
  have k2 : (f != 0) = true := by rw [bne_iff_ne]; exact h0
  clear hf h0
  go_enter Try.func8, Try.ntmps8
  go_wp2_with fail
  refine (F1.out _).mono ?_
  rintro e w1 ⟨rfl, rfl⟩
  go_wp2_with fail
  refine (N1.out _).mono ?_
  rintro e w2 ⟨rfl, hb⟩
  have L2 := hide hb
  have X2 := hide (Bx.at (w := w2) (g := w2.heap.size) noImg' 40 rfl)
  have L3 := hide (L2.out.alloc L2.out.size (.cells #[.int .i64 0, .int .i64 0, .int .i64 0, .slice none 0 0] 40))
  clear hb
  go_wp2_with fail
  refine (P1.out _).mono ?_
  rintro e w3 ⟨rfl, hb⟩
  have X3 := hide ((X2.out.below hb).alloc (.cells #[.int .i64 0, .int .i64 0, .int .i64 0, .slice none 0 0] 40))
  have Y3 := hide (Bx.at (w := w3) (g := w3.heap.size) noImg' 40 rfl)
  have L4 := hide ((L3.out.trans (hb.mono L3.out.size)).alloc (Nat.le_trans L3.out.size hb.size) (.cells #[.int .i64 0, .int .i64 0, .int .i64 0, .slice none 0 0] 40))
  clear hb X2
  obtain ⟨_, a0, a1, a2, a3, _, _, _, _⟩ := X3.out.four
  go_wp2_with fail
  refine (S1.out _).mono ?_
  rintro e w4 ⟨rfl, hb⟩
  have L5 := hide (L4.out.trans (hb.mono L4.out.size))
  obtain ⟨_, b0, b1, b2, b3, _, _, _, _⟩ := (Y3.out.below hb).four
  clear hb a0 a1 a2 a3
  go_wp2_with fail
  refine (S1.out _).mono ?_
  rintro e w5 ⟨rfl, hb⟩
  have L6 := hide (L5.out.trans (hb.mono L5.out.size))
  clear hb b0 b1 b2 b3
  go_wp2_with fail
  refine (AL.out _).mono ?_
  rintro e w6 ⟨rfl, hb⟩
  have L7 := hide (L6.out.trans (hb.mono L6.out.size))
  clear hb
  go_wp2_with fail
  go_ret
  exact ⟨rfl, L7.out⟩

set_option maxHeartbeats 4000000 in
set_option maxRecDepth 100000 in
/-- what isn't asked -/
theorem Made_many (x y : Int) (A : Option Addr) (m cap : Nat) (w : World) (h0 : fitsZ x y m = 0) (hk : 3000 < x * y) :
    Calls Try.prog 8 #[.int .i64 x, .int .i64 y, .slice A m cap] w (Says w (.bool true)) := by
  have F1 := hide (fun w => Fits_any x y m w)
  rw [h0] at F1
  have H := hide (Below.refl w.heap.size w)
  obtain ⟨_, _, _, p1, p2⟩ := fits_zero h0
  have k1 : IntKind.i64.wrap (x * y) = x * y := IntWalk.i64_in _ (by omega)
  clear h0 p1 p2
  go_enter Try.func8, Try.ntmps8
  go_wp2_with fail
  refine (F1.out _).mono ?_
  rintro e w1 ⟨rfl, rfl⟩
  go_wp2_with fail
  go_ret
  exact ⟨rfl, H.out⟩

/-- both images, and their bytes -/
def MadeK (w : World) (x y : Int) (m n N : Nat) (cs : List Int) (a b ga gb : Nat) (w' : World) : Prop :=
  Bx w' a [.int .i64 x, .int .i64 y, .int .i64 m, .slice (some ⟨ga, 0, none⟩) n n] ∧ Bx w' b [.int .i64 x, .int .i64 y, .int .i64 m, .slice (some ⟨gb, 0, none⟩) n n] ∧ Bx w' ga (noughts n) ∧ Bx w' gb (fillL cs m n N) ∧ Below w.heap.size w w'
theorem MadeK.below {w : World} {x y : Int} {m n N : Nat} {cs : List Int} {a b ga gb : Nat} {w1 w2 : World} (h : MadeK w x y m n N cs a b ga gb w1) (hb : Below w1.heap.size w1 w2) : MadeK w x y m n N cs a b ga gb w2 :=
  ⟨h.1.below hb, h.2.1.below hb, h.2.2.1.below hb, h.2.2.2.1.below hb, h.2.2.2.2.trans (hb.mono h.2.2.2.2.size)⟩
theorem MadeK.drewN {w : World} {x y : Int} {m n N : Nat} {cs : List Int} {a b ga gb : Nat} {w1 : World} (h : MadeK w x y m n N cs a b ga gb w1) (k : Nat) : MadeK w x y m n N cs a b ga gb (w1.drewN k) := h.below (bdrewN (Below.refl _ _) k)

set_option maxHeartbeats 4000000 in
set_option maxRecDepth 100000 in
theorem Made_in (x y : Int) (bb o m cap : Nat) (cs : List Int) (n N : Nat) (w : World) (h0 : fitsZ x y m = 0) (hk : x * y ≤ 3000) (hn : x * y * m = (n : Int)) (hN : n = N * m) (h : BY w (some ⟨bb, o, none⟩) m cap cs) :
    Calls Try.prog 8 #[.int .i64 x, .int .i64 y, .slice (some ⟨bb, o, none⟩) m cap] w (Says w (.bool true)) := by
  have F1 := hide (fun w => Fits_any x y m w)
  rw [h0] at F1
  have N1 := hide (fun w => New_ok x y m w h0 n hn)
  have P1 := hide (fun w' (hb : Below w.heap.size w w') => Fill_ok x y bb o m cap cs n N w' h0 hn hN (h.below hb))
  have hck : checkZ x y m n = 0 := by unfold checkZ; rw [if_pos h0, if_pos hn.symm]
  have C1 := hide (fun g w => RCheck_any x y m (some ⟨g, 0, none⟩) n n w)
  rw [hck] at C1
  have AL := hide alive7_any
  obtain ⟨hc, _, _, p1, p2⟩ := fits_zero h0
  have hm1 : 1 ≤ m := by omega
  have hn1 : n ≤ 100000000 := by rcases hc with q | q | q <;> rw [q] at hn <;> omega
  have k1 : IntKind.i64.wrap (x * y) = x * y := IntWalk.i64_in _ (by omega)
  have k2 : ¬ 3000 < x * y := by omega
  have HY := hide (fun w' (hb : Below w.heap.size w w') => h.below hb)
  have H := hide (Below.refl w.heap.size w)
  have HNN := Lib.hid hN
  clear h0 hc p1 p2 hn hN h hck hk
  go_enter Try.func8, Try.ntmps8
  go_wp2_with fail
  refine (F1.out _).mono ?_
  rintro e w1 ⟨rfl, rfl⟩
  go_wp2_with fail
  refine (N1.out _).mono ?_
  rintro e w2 ⟨ga, rfl, hga, hA, hb⟩
  have L2 := hide hb
  have A2 := hide (hA.alloc (.cells #[.int .i64 x, .int .i64 y, .int .i64 m, .slice (some ⟨ga, 0, none⟩) n n] 40))
  have X2 := hide (Bx.at (w := w2) (g := w2.heap.size) [.int .i64 x, .int .i64 y, .int .i64 m, .slice (some ⟨ga, 0, none⟩) n n] 40 rfl)
  have L3 := hide (L2.out.alloc L2.out.size (.cells #[.int .i64 x, .int .i64 y, .int .i64 m, .slice (some ⟨ga, 0, none⟩) n n] 40))
  clear hb hA
  go_wp2_with fail
  refine (P1.out _ L3.out).mono ?_
  rintro e w3 ⟨gb, rfl, hgb, hB, hb⟩
  have HK := hide (show MadeK w x y m n N cs w2.heap.size w3.heap.size ga gb (w3.alloc (.cells #[.int .i64 x, .int .i64 y, .int .i64 m, .slice (some ⟨gb, 0, none⟩) n n] 40)) from
    ⟨(X2.out.below hb).alloc _, Bx.at [.int .i64 x, .int .i64 y, .int .i64 m, .slice (some ⟨gb, 0, none⟩) n n] _ rfl, (A2.out.below hb).alloc _, hB.alloc _, (L3.out.trans (hb.mono L3.out.size)).alloc (Nat.le_trans L3.out.size hb.size) _⟩)
  clear hb hB X2 A2 L2 L3 hga hgb
  obtain ⟨_, a0, a1, a2, a3, _, _, _, _⟩ := HK.out.1.four
  go_wp2_with fail
  refine (C1.out _ _).mono ?_
  rintro e w4 ⟨rfl, hb⟩
  have K4 := hide (HK.out.below hb)
  clear hb a0 a1 a2 a3 HK
  obtain ⟨_, b0, b1, b2, b3, _, _, _, _⟩ := K4.out.2.1.four
  go_wp2_with fail
  refine (C1.out _ _).mono ?_
  rintro e w5 ⟨rfl, hb⟩
  have K5 := hide (K4.out.below hb)
  clear hb b0 b1 b2 b3 K4
  obtain ⟨_, a0, a1, a2, a3, _, _, _, _⟩ := K5.out.1.four
  obtain ⟨_, b0, b1, b2, b3, _, _, _, _⟩ := K5.out.2.1.four
  go_wp2_with fail
  go_loopw [13] (fun i wr => ∃ k : Nat, k ≤ n ∧ i = .int .i64 k ∧ MadeK w x y m n N cs w2.heap.size w3.heap.size ga gb wr) (fun i _ => n - (intOf i).toNat)
  case atStart => exact ⟨0, Nat.zero_le _, rfl, K5.out⟩
  case round =>
    clear K5 a0 a1 a2 a3 b0 b1 b2 b3
    obtain ⟨k, hk, rfl, hK⟩ := hrel
    have HK := hide hK
    clear hK
    obtain ⟨_, a0, a1, a2, a3, _, _, _, _⟩ := HK.out.1.four
    obtain ⟨_, b0, b1, b2, b3, _, _, _, _⟩ := HK.out.2.1.four
    by_cases hlt : k < n
    · have e1 := (HK.out.2.2.1.2 k (.int .u8 0) (by simp [noughts, hlt])).1
      have e2 := (HK.out.2.2.2.1.2 k (.int .u8 (cs.getD (k % m) 0)) (by simp only [fillL, List.getElem?_map, List.getElem?_range hlt, Option.map_some]; rw [if_pos (by rw [← HNN.out]; exact hlt)])).1
      obtain ⟨b', o', eA, _, hcell⟩ := (HY.out _ HK.out.2.2.2.2).2.2.2.2 (by omega)
      cases eA
      have e3 := hcell (k % m) (Nat.mod_lt _ (by omega))
      generalize cs.getD (k % m) 0 = q at e2 e3
      have ht : (k : Int).tmod (m : Int) = ((k % m : Nat) : Int) := by rw [Int.tmod_eq_emod_of_nonneg (by omega)]; rfl
      have hml : k % m < m := Nat.mod_lt _ (by omega)
      generalize k % m = r at ht hml e3
      have i0 : (0 : Int) ≤ (k : Int) := by omega
      have i1 : (k : Int) < (n : Int) := by omega
      have i2 : (0 : Int) ≤ (r : Int) := by omega
      have i3 : (r : Int) < (m : Int) := by omega
      have i4 : ((m : Int) == 0) = false := by rw [beq_eq_false_iff_ne]; omega
      have i5 : (m : Int) ≠ 0 := by omega
      clear hcell hml
      go_wp2_with fail
      go_region
      go_wp2_with fail
      go_roundw
      case rel => exact ⟨k + 1, by omega, by go_num, HK.out.drewN _⟩
      case measure => simp [intOf]; omega
    · obtain rfl : k = n := by omega
      go_wp2_with fail
      refine (AL.out _).mono ?_
      rintro e w6 ⟨rfl, hb⟩
      have L := hide (HK.out.below hb).2.2.2.2
      clear hb
      go_wp2_with fail
      go_ret
      exact ⟨rfl, L.out⟩

theorem ImgMade_walk (x y : Int) (A : Option Addr) (m cap : Nat) (cs : List Int) (w : World) (h : BY w A m cap cs) :
    Calls Try.prog 8 #[.int .i64 x, .int .i64 y, .slice A m cap] w (Says w (.bool true)) := by
  by_cases h0 : fitsZ x y m = 0
  · by_cases hk : 3000 < x * y
    · exact Made_many x y A m cap w h0 hk
    · obtain ⟨hc, _, _, p1, p2⟩ := fits_zero h0
      obtain ⟨bb, o, rfl, _, _⟩ := h.2.2.2.2 (by omega)
      obtain ⟨N, hN⟩ : ∃ N : Nat, x * y = N := ⟨(x * y).toNat, by omega⟩
      exact Made_in x y bb o m cap cs (N * m) N w h0 (by omega) (by rw [hN, Int.natCast_mul]) rfl h
  · exact Made_bad x y A m cap w h0

end Go.Proofs.Ytfhjdghhgojbkaa
