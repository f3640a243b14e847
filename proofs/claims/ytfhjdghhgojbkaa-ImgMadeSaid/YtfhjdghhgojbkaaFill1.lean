/-
Contracts of package img's each, of a brush, and of Fill. No statement is proved here.
-/
import Derived.Test.YtfhjdghhgojbkaaFill0
import Derived.Test.YtfhjdghhgojbkaaImg5
namespace Go.Proofs.Ytfhjdghhgojbkaa
open Go.RowKit

/-- the bytes of which j pixels are painted -/
def fillL (cs : List Int) (m n j : Nat) : List Value := (List.range n).map fun i => .int .u8 (if i < j * m then cs.getD (i % m) 0 else 0)
theorem fillL_length (cs : List Int) (m n j : Nat) : (fillL cs m n j).length = n := by simp [fillL]
theorem fillL_zero (cs : List Int) (m n : Nat) : fillL cs m n 0 = noughts n := by
  apply List.ext_getElem?
  intro i
  simp [fillL, noughts, List.getElem?_replicate]
  split <;> simp_all
theorem fillL_step {cs : List Int} {m n j : Nat} (hm : cs.length = m) (hfit : j * m + m ≤ n) : (fillL cs m n j).take (j * m) ++ bytesV cs ++ (fillL cs m n j).drop (j * m + m) = fillL cs m n (j + 1) := by
  have e1 : (j + 1) * m = j * m + m := Nat.succ_mul j m
  apply List.ext_getElem?
  intro i
  have hl : ((fillL cs m n j).take (j * m)).length = j * m := by simp [fillL_length]; omega
  have hb : (bytesV cs).length = m := by simp [bytesV, hm]
  rcases Nat.lt_or_ge i (j * m) with q | q
  · rw [List.append_assoc, List.getElem?_append_left (by omega), List.getElem?_take, if_pos q]
    simp only [fillL, List.getElem?_map, List.getElem?_range (show i < n by omega), Option.map_some]
    rw [if_pos q, if_pos (by omega)]
  · rcases Nat.lt_or_ge i (j * m + m) with q2 | q2
    · rw [List.append_assoc, List.getElem?_append_right (by omega), hl, List.getElem?_append_left (by omega)]
      simp only [fillL, List.getElem?_map, List.getElem?_range (show i < n by omega), Option.map_some]
      rw [if_pos (by omega)]
      have e2 : i % m = i - j * m := by
        have : i = (i - j * m) + m * j := by rw [Nat.mul_comm m j]; omega
        rw [this, Nat.add_mul_mod_self_left, Nat.mod_eq_of_lt (by omega)]
        omega
      rw [e2]
      simp [bytesV, List.getD_eq_getElem?_getD, show i - j * m < cs.length by omega]
    · rw [List.append_assoc, List.getElem?_append_right (by omega), hl, List.getElem?_append_right (by omega), hb, List.getElem?_drop]
      rw [show j * m + m + (i - j * m - m) = i by omega]
      rcases Nat.lt_or_ge i n with q3 | q3
      · simp only [fillL, List.getElem?_map, List.getElem?_range q3, Option.map_some]
        rw [if_neg (by omega), if_neg (by omega)]
      · rw [List.getElem?_eq_none (by rw [fillL_length]; exact q3), List.getElem?_eq_none (by rw [fillL_length]; exact q3)]
theorem BY.grown {w w' : World} {bb o n c g : Nat} {xs : List Int} (h : BY w (some ⟨bb, o, none⟩) n c xs) (hg : w.grownBy w' (some g)) (hne : bb ≠ g) : BY w' (some ⟨bb, o, none⟩) n c xs := by
  obtain ⟨h1, h2, h3, h4, h5⟩ := h
  refine ⟨h1, h2, h3, h4, fun hn => ?_⟩
  obtain ⟨b', o', e, hlt, hc⟩ := h5 hn
  cases e
  exact ⟨bb, o, rfl, Nat.lt_of_lt_of_le hlt hg.size, fun i hi => (World.cell?_of_block (a := ⟨bb, o + i, none⟩) (hg.block bb hlt (fun e => hne (by injection e)))).trans (hc i hi)⟩

set_option maxHeartbeats 2000000 in
theorem Each_any (x y : Int) (g n N : Nat) (bb o m cap : Nat) (cs : List Int) (w : World) (hH : RowAt w g (noughts n)) (hN : n = N * m) (hm : 1 ≤ m) (h : BY w (some ⟨bb, o, none⟩) m cap cs) (hne : bb ≠ g) (hn : n ≤ 100000000) :
    Calls Try.prog 54 #[.agg #[.int .i64 x, .int .i64 y, .int .i64 m, .slice (some ⟨g, 0, none⟩) n n], .func (.func 55) #[.agg #[.slice (some ⟨g, 0, none⟩) n n, .slice (some ⟨bb, o, none⟩) m cap]] #[]] w
      fun e w' => e = .returned (.tuple #[]) ∧ w.grownBy w' (some g) ∧ RowAt w' g (fillL cs m n N) := by
  have B0 := Bx.at (w := w) (g := w.heap.size) [.int .i64 x, .int .i64 y, .int .i64 m, .slice (some ⟨g, 0, none⟩) n n] 40 rfl
  have e0 : [Value.int .i64 x, .int .i64 y, .int .i64 m, .slice (some ⟨g, 0, none⟩) n n].toArray = #[Value.int .i64 x, .int .i64 y, .int .i64 m, .slice (some ⟨g, 0, none⟩) n n] := rfl
  rw [e0] at B0
  have HB0 := hide B0
  have HG0 := hide (World.grownBy_alloc w (.cells #[Value.int .i64 x, .int .i64 y, .int .i64 m, .slice (some ⟨g, 0, none⟩) n n] 40) (some g))
  have HR0 := hide (show RowAt (w.alloc (.cells #[Value.int .i64 x, .int .i64 y, .int .i64 m, .slice (some ⟨g, 0, none⟩) n n] 40)) g (fillL cs m n 0) by rw [fillL_zero]; exact (Below.heap_alloc w _ g hH.lt).trans hH)
  have hgl := hH.lt
  have HN0 := Lib.hid hN
  clear hN
  have HY := hide h
  have hcl := h.1
  clear B0 hH h
  go_enter Try.func54, Try.ntmps54
  go_wp2_with fail
  go_loopw [4] (fun i wr => ∃ j : Nat, j ≤ N ∧ i = .int .i64 ((j * m : Nat) : Int) ∧ w.grownBy wr (some g) ∧ RowAt wr g (fillL cs m n j) ∧ Bx wr w.heap.size [.int .i64 x, .int .i64 y, .int .i64 m, .slice (some ⟨g, 0, none⟩) n n]) (fun i _ => n + m - (intOf i).toNat)
  case atStart => exact ⟨0, Nat.zero_le _, by simp, HG0.out, HR0.out, HB0.out⟩
  case round =>
    clear HB0 HG0 HR0
    obtain ⟨j, hj, rfl, hG, hR, hB⟩ := hrel
    obtain ⟨_, a0, a1, a2, a3, _, _, _, _⟩ := hB.four
    have HG := hide hG
    have HR := hide hR
    have HB := hide hB
    clear hG hR hB
    by_cases hlt : j < N
    · have hs : (j + 1) * m = j * m + m := Nat.succ_mul j m
      have hf : j * m + m ≤ n := by rw [HN0.out, ← hs]; exact Nat.mul_le_mul_right m (by omega)
      have P1 := hide (Paint_any g (j * m) n bb o m cap cs _ wr HR.out (fillL_length cs m n j) hf hm (HY.out.grown HG.out hne))
      rw [fillL_step hcl hf] at P1
      have hs' := Lib.hid hs
      obtain ⟨p, hp⟩ : ∃ p, j * m = p := ⟨_, rfl⟩
      rw [hp] at P1 hf hs ⊢
      have Hp := Lib.hid hp
      have i1 : (p : Int) < (n : Int) := by omega
      have i2 : IntKind.i64.wrap ((p : Int) + m) = (p : Int) + m := IntWalk.i64_in _ (by omega)
      clear hs hp
      go_wp2_with fail
      refine P1.out.mono ?_
      rintro e w2 ⟨rfl, hg2, hr2⟩
      have HB2 := hide (Bx.grown HB.out hg2 (fun e => by injection e with e; omega))
      have HG2 := hide (grownBy_trans HG.out hg2)
      have HR2 := hide hr2
      clear hg2 hr2 a0 a1 a2 a3
      obtain ⟨_, a0, a1, a2, a3, _, _, _, _⟩ := HB2.out.four
      go_wp2_with fail
      go_roundw
      case rel => exact ⟨j + 1, by omega, by rw [hs'.out, Hp.out]; go_num, HG2.out, HR2.out, HB2.out⟩
      case measure => simp [intOf]; omega
    · obtain rfl : j = N := by omega
      rw [← HN0.out]
      go_wp2_with fail
      refine bodyPost_end (v := .tuple #[]) (by simp [results, Try.results54]) rfl ?_
      exact ⟨rfl, HG.out, HR.out⟩

end Go.Proofs.Ytfhjdghhgojbkaa
