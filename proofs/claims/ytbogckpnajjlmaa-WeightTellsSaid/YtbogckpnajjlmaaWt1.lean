/-
Contract of weight.Table. No statement is proved here.
-/
import Derived.Test.YtbogckpnajjlmaaWei1
import Derived.Test.YtbogckpnajjlmaaMk0
import Derived.Test.YtbogckpnajjlmaaDiff0
namespace Go.Proofs.Ytbogckpnajjlmaa
open Go.RowKit

def Bx4 (w : World) (g o : Nat) (a b c d : Value) : Prop := (w.cell? ⟨g, o, none⟩ = some a ∧ w.frozen? ⟨g, o, none⟩ = false) ∧ (w.cell? ⟨g, o + 1, none⟩ = some b ∧ w.frozen? ⟨g, o + 1, none⟩ = false) ∧ (w.cell? ⟨g, o + 2, none⟩ = some c ∧ w.frozen? ⟨g, o + 2, none⟩ = false) ∧ w.cell? ⟨g, o + 3, none⟩ = some d ∧ w.frozen? ⟨g, o + 3, none⟩ = false
theorem infoA4 : (Try.prog.info? 53).map (fun i => (i.zero, i.size, i.bytes)) = some (some (.agg #[.int .i64 0, .int .i64 0, .int .i64 0, .int .i64 0]), 4, 32) := by kernel_rfl
set_option maxRecDepth 100000 in
theorem run_make_rows (w : World) : ∃ cs : List Value, cs.length = 1024 ∧ (Instr.makeSlice 58 (.int .i64 256) (.int .i64 256)).run Try.prog w = .ok (.slice (some ⟨w.heap.size, 0, none⟩) 256 256) (w.alloc (.cells cs.toArray 53)) := by
  obtain ⟨i0, hi, hz0, hz1, hz2⟩ := info_parts infoA4
  have hr := run_make (P := Try.prog) w 58 53 i0 _ Try.underlying58 hi hz0 .i64 .i64 256 256 (by omega) (by omega) (by rw [hz2]; omega) (by omega)
  rw [hz1] at hr
  refine ⟨(madeCells (Value.agg #[.int .i64 0, .int .i64 0, .int .i64 0, .int .i64 0]).cells (Int.toNat 256 * 4)).toList, by rw [Array.length_toList, size_madeCells]; rfl, ?_⟩
  rw [Array.toArray_toList]
  exact hr
/-- the cells of the first rows of the table -/
def tabP (cs : List Value) (k : Nat) : Prop := cs.length = 1024 ∧ ∀ i, i < k → cs[i * 4]? = some (.int .i64 (outerZ i)) ∧ cs[i * 4 + 1]? = some (.int .i64 (innerZ i)) ∧ cs[i * 4 + 2]? = some (.int .i64 (innerZ (256 - i))) ∧ cs[i * 4 + 3]? = some (.int .i64 (outerZ (256 - i)))
theorem tabP.next {cs : List Value} {k : Nat} (h : tabP cs k) (hk : k < 256) (p q r s : Int) (e1 : outerZ k = p) (e2 : innerZ k = q) (e3 : innerZ (256 - k) = r) (e4 : outerZ (256 - k) = s) : tabP ((((cs.set (k * 4) (.int .i64 p)).set (k * 4 + 1) (.int .i64 q)).set (k * 4 + 2) (.int .i64 r)).set (k * 4 + 3) (.int .i64 s)) (k + 1) := by
  obtain ⟨hl, h⟩ := h
  subst e1 e2 e3 e4
  refine ⟨by simpa using hl, fun i hi => ?_⟩
  rcases Nat.lt_or_ge i k with t | t
  · obtain ⟨a, b, c, d⟩ := h i t
    refine ⟨?_, ?_, ?_, ?_⟩
    all_goals
      repeat rw [List.getElem?_set_ne (by omega)]
      assumption
  · obtain rfl : i = k := by omega
    refine ⟨?_, ?_, ?_, ?_⟩
    · rw [List.getElem?_set_ne (by omega), List.getElem?_set_ne (by omega), List.getElem?_set_ne (by omega), List.getElem?_set_self (by omega)]
    · rw [List.getElem?_set_ne (by omega), List.getElem?_set_ne (by omega), List.getElem?_set_self (by simp; omega)]
    · rw [List.getElem?_set_ne (by omega), List.getElem?_set_self (by simp; omega)]
    · rw [List.getElem?_set_self (by simp; omega)]
def TbK (w : World) (k : Nat) (wr : World) : Prop := ∃ cs, tabP cs k ∧ Bx wr w.heap.size cs ∧ Below w.heap.size w wr
theorem TbK.next {w wr : World} {k : Nat} (h : TbK w k wr) (hk : k < 256) (p q r s : Int) (e1 : outerZ k = p) (e2 : innerZ k = q) (e3 : innerZ (256 - k) = r) (e4 : outerZ (256 - k) = s) :
    TbK w (k + 1) ((((wr.setCell ⟨w.heap.size, k * 4, none⟩ (.int .i64 p)).setCell ⟨w.heap.size, k * 4 + 1, none⟩ (.int .i64 q)).setCell ⟨w.heap.size, k * 4 + 2, none⟩ (.int .i64 r)).setCell ⟨w.heap.size, k * 4 + 3, none⟩ (.int .i64 s)) := by
  obtain ⟨cs, h1, h2, h3⟩ := h
  have hl := h1.1
  refine ⟨_, h1.next hk p q r s e1 e2 e3 e4, ?_, ?_⟩
  · exact (((h2.set (k * 4) (by omega) _).set (k * 4 + 1) (by simp; omega) _).set (k * 4 + 2) (by simp; omega) _).set (k * 4 + 3) (by simp; omega) _
  · exact (((h3.setCell (Nat.le_refl _) _).setCell (Nat.le_refl _) _).setCell (Nat.le_refl _) _).setCell (Nat.le_refl _) _
theorem TbK.below {w w1 w2 : World} {k : Nat} (h : TbK w k w1) (hb : Below w1.heap.size w1 w2) : TbK w k w2 := by
  obtain ⟨cs, h1, h2, h3⟩ := h
  exact ⟨cs, h1, h2.below hb, h3.trans (hb.mono h3.size)⟩
/-- the cells of a row that are there -/
theorem TbK.has {w wr : World} {k i : Nat} (h : TbK w k wr) (hi : i < 256) : ∃ a b c d, Bx4 wr w.heap.size (i * 4) a b c d := by
  obtain ⟨cs, h1, h2, _⟩ := h
  have hl := h1.1
  exact ⟨_, _, _, _, h2.2 (i * 4) _ (List.getElem?_eq_getElem (by omega)), h2.2 (i * 4 + 1) _ (List.getElem?_eq_getElem (by omega)), h2.2 (i * 4 + 2) _ (List.getElem?_eq_getElem (by omega)), h2.2 (i * 4 + 3) _ (List.getElem?_eq_getElem (by omega))⟩
theorem TbK.row {w wr : World} {k i : Nat} (h : TbK w k wr) (hi : i < k) : Bx4 wr w.heap.size (i * 4) (.int .i64 (outerZ i)) (.int .i64 (innerZ i)) (.int .i64 (innerZ (256 - i))) (.int .i64 (outerZ (256 - i))) := by
  obtain ⟨cs, h1, h2, _⟩ := h
  obtain ⟨a, b, c, d⟩ := h1.2 i hi
  exact ⟨h2.2 _ _ a, h2.2 _ _ b, h2.2 _ _ c, h2.2 _ _ d⟩

set_option maxRecDepth 100000 in
set_option maxHeartbeats 4000000 in
theorem Table_any (w : World) : Calls Try.prog 26 #[] w fun e w' => ∃ g, e = .returned (.slice (some ⟨g, 0, none⟩) 256 256) ∧ (∃ cs, tabP cs 256 ∧ Bx w' g cs) ∧ Below w.heap.size w w' := by
  obtain ⟨cs, hl, hmk⟩ := run_make_rows w
  have HS := hide (show TbK w 0 (w.alloc (.cells cs.toArray 53)) from ⟨cs, ⟨hl, fun i hi => absurd hi (by omega)⟩, Bx.new w cs 53, below_alloc w _⟩)
  have HC := hide (fun (k : Nat) (hk : k < 256) w => WCubic_yes (k : Int) (by omega) (by omega) w)
  clear hl
  go_enter Try.func26, Try.ntmps26
  go_wp2_with fail
  generalize w.alloc (.cells cs.toArray 53) = w0 at HS ⊢
  clear hmk
  go_loopw [6] (fun i wr => ∃ k : Nat, k ≤ 256 ∧ i = .int .i64 k ∧ TbK w k wr) (fun i _ => 256 - (intOf i).toNat)
  case atStart => exact ⟨0, Nat.zero_le _, rfl, HS.out⟩
  case round =>
    clear HS
    obtain ⟨k, hk, rfl, hT⟩ := hrel
    have HT := hide hT
    clear hT
    by_cases hlt : k < 256
    · have HCk := hide (HC.out k hlt)
      have HN := hide (fun p q r s e1 e2 e3 e4 wr (h : TbK w k wr) => h.next hlt p q r s e1 e2 e3 e4)
      obtain ⟨p, hp⟩ : ∃ z, outerZ k = z := ⟨_, rfl⟩
      obtain ⟨q, hq⟩ : ∃ z, innerZ k = z := ⟨_, rfl⟩
      obtain ⟨r, hr⟩ : ∃ z, innerZ (256 - k) = z := ⟨_, rfl⟩
      obtain ⟨s, hs⟩ : ∃ z, outerZ (256 - k) = z := ⟨_, rfl⟩
      have HN := hide (HN.out p q r s hp hq hr hs)
      rw [hp, hq, hr, hs] at HCk
      clear hp hq hr hs
      have i0 : (0 : Int) ≤ (k : Int) := by omega
      have i1 : (k : Int) < 256 := by omega
      go_wp2_with fail
      refine (HCk.out _).mono ?_
      rintro e w1 ⟨rfl, hb⟩
      have HT1 := hide (HT.out.below hb)
      obtain ⟨x0, x1, x2, x3, ⟨c0, f0⟩, ⟨c1, f1⟩, ⟨c2, f2⟩, c3, f3⟩ := HT1.out.has hlt
      clear hb
      go_wp2_with fail
      go_roundw
      case rel => exact ⟨k + 1, by omega, by go_num, HN.out _ HT1.out⟩
      case measure => simp [intOf]; omega
    · obtain rfl : k = 256 := by omega
      go_wp2_with fail
      go_ret
      obtain ⟨cs, h1, h2, h3⟩ := HT.out
      exact ⟨_, rfl, ⟨cs, h1, h2⟩, h3⟩
end Go.Proofs.Ytbogckpnajjlmaa
