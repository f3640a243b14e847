/-
Contracts of package hash's Bytes and Hex. No statement is proved here.
-/
import Derived.Test.YtnpjnegelhaaaaaHash1
import Derived.Test.YtnpjnegelhaaaaaDiff0
import Derived.Laws.BytesArg
namespace Go.Proofs.Ytnpjnegelhaaaaa
open Go.RowKit

theorem sumW_below {B : Nat} {w0 w : World} {g : Nat} (h : Below B w0 w) (hg : B ≤ g) (off m : Int) (n : Nat) (xs : List Int) : Below B w0 (sumW w g off m n xs) := (h.setCell hg _).setCell hg _
theorem sumW_box {w : World} {g : Nat} {off m : Int} (h : Bx w g [.int .u64 off, .int .i64 m]) (n : Nat) (xs : List Int) : Bx (sumW w g off m n xs) g [.int .u64 (xor64 (fnvK (xor64 off 14695981039346656037) xs n) 14695981039346656037), .int .i64 (m + n)] :=
  (h.set 0 (by simp) _).set 1 (by simp) _
theorem xor64_nought : xor64 0 14695981039346656037 = 14695981039346656037 := by decide

set_option maxHeartbeats 1000000 in
theorem HBytes_any (A : Option Addr) (n cap : Nat) (xs : List Int) (w : World) (h : BY w A n cap xs) :
    Calls Try.prog 40 #[.slice A n cap] w (Says w (.int .u64 (fnvK 14695981039346656037 xs n))) := by
  have hm : n ≤ 9223372036854775807 := by have := h.2.1; have := h.2.2.1; unfold maxLen at this; omega
  have hB0 := Bx.at (w := w) (g := w.heap.size) [.int .u64 0, .int .i64 0] 62 rfl
  have W1 := hide (HWrite_any w.heap.size 0 0 A n cap xs _ hB0 ⟨by decide, by decide⟩ (h.below (below_alloc w _)) ⟨by decide, by omega⟩)
  have S1 := hide (HSum_any w.heap.size _ _ _ (sumW_box hB0 n xs) (xor64_in (fnvK_in (xor64_in ⟨by decide, by decide⟩ fnv0_in) xs n) fnv0_in))
  rw [xor64_nought, xor64_back (fnvK_in fnv0_in xs n).1] at S1
  have L := hide (sumW_below (below_alloc w (.cells [.int .u64 0, .int .i64 0].toArray 62)) (Nat.le_refl _) 0 0 n xs)
  clear hB0 h hm
  go_enter Try.func40, Try.ntmps40
  go_wp2_with fail
  refine W1.out.mono ?_
  rintro e w1 ⟨rfl, rfl⟩
  go_wp2_with fail
  refine S1.out.mono ?_
  rintro e w2 ⟨rfl, rfl⟩
  go_wp2_with fail
  go_ret
  exact ⟨rfl, L.out⟩

def hexC (d : Int) : Int := if d < 10 then 48 + d else 87 + d
/-- the digits laid so far, from the last one on -/
def hexV (x : Int) (j : Nat) : List Value := (List.range 16).map fun p => .int .u8 (if 15 - p < j then hexC (x / 16 ^ (15 - p) % 16) else 0)
theorem hexV_set (x : Int) (j : Nat) (hj : j < 16) : (hexV x j).set (15 - j) (.int .u8 (hexC (x / 16 ^ j % 16))) = hexV x (j + 1) := by
  apply List.ext_getElem?
  intro i
  by_cases e : 15 - j = i
  · subst e
    have e1 : 15 - (15 - j) = j := by omega
    have e2 : 15 - j < 16 := by omega
    rw [List.getElem?_set_self (by simp [hexV]; omega)]
    simp only [hexV, List.getElem?_map, List.getElem?_range e2, Option.map_some, e1]
    rw [if_pos (by omega)]
  · rw [List.getElem?_set_ne e]
    rcases Nat.lt_or_ge i 16 with q | q
    · simp only [hexV, List.getElem?_map, List.getElem?_range q, Option.map_some]
      congr 2
      by_cases q2 : 15 - i < j
      · rw [if_pos q2, if_pos (by omega)]
      · rw [if_neg q2, if_neg (by omega)]
    · simp [hexV, q]
def hexL (x : Int) : List Int := (List.range 16).map fun p => hexC (x / 16 ^ (15 - p) % 16)
def hexS (x : Int) : ByteArray := strOfNums (hexL x)
theorem hexV_all (x : Int) {w : World} {g : Nat} (h : Bx w g (hexV x 16)) (i : Nat) (hi : i < 16) : w.cell? ⟨g, 0 + i, none⟩ = some (.int .u8 ((hexL x).getD i 0)) := by
  have := (h.2 i (.int .u8 (hexC (x / 16 ^ (15 - i) % 16))) (by simp only [hexV, List.getElem?_map, List.getElem?_range hi, Option.map_some]; rw [if_pos (by omega)])).1
  rw [Nat.zero_add, this]
  simp only [hexL, List.getD_eq_getElem?_getD, List.getElem?_map, List.getElem?_range hi, Option.map_some, Option.getD_some]
theorem hexD (d : Int) (h0 : 0 ≤ d ∧ d < 16) (h : d.toNat < (ByteArray.mk #[48, 49, 50, 51, 52, 53, 54, 55, 56, 57, 97, 98, 99, 100, 101, 102]).size) : (((ByteArray.mk #[48, 49, 50, 51, 52, 53, 54, 55, 56, 57, 97, 98, 99, 100, 101, 102])[d.toNat]'h).toNat : Int) = hexC d := by
  have e : d = 0 ∨ d = 1 ∨ d = 2 ∨ d = 3 ∨ d = 4 ∨ d = 5 ∨ d = 6 ∨ d = 7 ∨ d = 8 ∨ d = 9 ∨ d = 10 ∨ d = 11 ∨ d = 12 ∨ d = 13 ∨ d = 14 ∨ d = 15 := by omega
  rcases e with rfl | rfl | rfl | rfl | rfl | rfl | rfl | rfl | rfl | rfl | rfl | rfl | rfl | rfl | rfl | rfl <;> rfl
theorem and15 {y : Int} (h : isU64 y) : bits .and .u64 y 15 = y % 16 := by
  obtain ⟨h1, h2⟩ := h
  rw [u64_and y 15 h1 (by omega) (by decide) (by decide), show (15 : Int).toNat = 15 from rfl, nat_mask4]
  omega
theorem div_in {x : Int} (h : isU64 x) (j : Nat) : isU64 (x / 16 ^ j) := by
  obtain ⟨h1, h2⟩ := h
  have hp : (0 : Int) < 16 ^ j := Int.pow_pos (by decide)
  exact ⟨Int.ediv_nonneg h1 (by omega), Int.le_trans (Int.ediv_le_self _ h1) h2⟩

set_option maxHeartbeats 1000000 in
theorem Hex_any (x : Int) (w : World) (hx : isU64 x) :
    Calls Try.prog 39 #[.int .u64 x] w (Says w (.string (hexS x))) := by
  have B0 := Bx.at (w := w) (g := w.heap.size) (hexV x 0) 92 rfl
  have L0 := below_alloc w (.cells (hexV x 0).toArray 92)
  have e0 : (hexV x 0).toArray = #[.int .u8 0, .int .u8 0, .int .u8 0, .int .u8 0, .int .u8 0, .int .u8 0, .int .u8 0, .int .u8 0, .int .u8 0, .int .u8 0, .int .u8 0, .int .u8 0, .int .u8 0, .int .u8 0, .int .u8 0, .int .u8 0] := by rfl
  rw [e0] at B0 L0
  have HX := hide (div_in hx)
  have HB0 := hide B0
  have HL0 := hide L0
  clear B0 L0 e0 hx
  go_enter Try.func39, Try.ntmps39
  go_wp2_with fail
  go_loopw [0, 4] (fun y i wr => ∃ j : Nat, j ≤ 16 ∧ i = .int .i64 (15 - j) ∧ y = .int .u64 (x / 16 ^ j) ∧ Bx wr w.heap.size (hexV x j) ∧ Below w.heap.size w wr) (fun _ i _ => (intOf i + 1).toNat)
  case atStart => exact ⟨0, Nat.zero_le _, rfl, by simp, HB0.out, HL0.out⟩
  case round =>
    clear HB0 HL0
    obtain ⟨j, hj, rfl, rfl, hB, hL⟩ := hrel
    by_cases hlt : j < 16
    · have hy := HX.out j
      have hs := hide (show x / 16 ^ (j + 1) = x / 16 ^ j / 16 by rw [Int.pow_succ, Int.ediv_ediv_of_nonneg (Int.le_of_lt (Int.pow_pos (by decide)))])
      have hv := hide (hexV_set x j hlt)
      obtain ⟨c0, f0⟩ := hB.2 (15 - j) (.int .u8 0) (by simp only [hexV, List.getElem?_map, List.getElem?_range (show 15 - j < 16 by omega), Option.map_some]; rw [if_neg (by omega)])
      have HB := hide hB
      have HL := hide hL
      clear hB hL
      generalize x / 16 ^ j = y at hy hs hv
      have ha := and15 hy
      have hd : 0 ≤ y % 16 ∧ y % 16 < 16 := by omega
      have HD := hide (hexD (y % 16) hd)
      generalize y % 16 = d at ha hd HD hv
      go_wp2_with fail
      rw [HD.out]
      go_roundw
      case rel =>
        refine ⟨j + 1, by omega, by go_num, by rw [hs.out], ?_, HL.out.setCell (Nat.le_refl _) _⟩
        rw [← hv.out]
        exact HB.out.set _ (by simp [hexV]; omega) _
      case measure => simp [intOf]; omega
    · obtain rfl : j = 16 := by omega
      have hcv := run_convert_bytes_arg (P := Try.prog) wr 38 5 Try.underlying38 Try.underlying5 w.heap.size 0 16 16 (hexL x) rfl (hexV_all x hB) 9 Try.underlying9
      have HL := hide hL
      clear hB hL
      obtain ⟨y, hy⟩ : ∃ y, x / 16 ^ 16 = y := ⟨_, rfl⟩
      rw [hy]
      rw [show ((15 : Int) - ((16 : Nat) : Int)) = -1 from rfl]
      clear hy HX
      go_wp2_with fail
      go_ret
      exact ⟨rfl, HL.out⟩

theorem alive12_any (w : World) : Calls Try.prog 45 #[] w (Says w (.bool true)) := by
  have B1 := hide (HBytes_any none 0 0 [] w (BY.nil _ _ _ (by unfold maxLen; omega)))
  have X1 := hide (fun w => Hex_any 14695981039346656037 w fnv0_in)
  rw [show fnvK 14695981039346656037 [] 0 = 14695981039346656037 from rfl] at B1
  rw [show hexS 14695981039346656037 = ⟨#[99, 98, 102, 50, 57, 99, 101, 52, 56, 52, 50, 50, 50, 51, 50, 53]⟩ by decide +kernel] at X1
  go_enter Try.func45, Try.ntmps45
  go_wp2_with fail
  refine B1.out.mono ?_
  rintro e w1 ⟨rfl, hb⟩
  go_wp2_with fail
  refine (X1.out _).mono ?_
  rintro e w2 ⟨rfl, hb2⟩
  have L := hide (hb.trans (hb2.mono hb.size))
  clear hb hb2
  go_wp2_with fail
  go_ret
  exact ⟨rfl, L.out⟩

end Go.Proofs.Ytnpjnegelhaaaaa
