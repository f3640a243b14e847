/-
Contract of the reference's Hex. No statement is proved here.
-/
import Derived.Test.YtnpjnegelhaaaaaHex1
namespace Go.Proofs.Ytnpjnegelhaaaaa
open Go.RowKit

/-- the last j digits of a number -/
def hexT (x : Int) (j : Nat) : ByteArray := strOfNums ((hexL x).drop (16 - j))
theorem hexT_all (x : Int) : hexT x 16 = hexS x := rfl
theorem hexT_none (x : Int) : hexT x 0 = ByteArray.mk #[] := by
  unfold hexT
  rw [List.drop_of_length_le (by simp [hexL])]
  rfl
theorem tbl_cut (d : Int) (h : 0 ≤ d ∧ d < 16) : (ByteArray.mk #[48, 49, 50, 51, 52, 53, 54, 55, 56, 57, 97, 98, 99, 100, 101, 102]).extract d.toNat (d.toNat + 1) = strOfNums [hexC d] := by
  have e : d = 0 ∨ d = 1 ∨ d = 2 ∨ d = 3 ∨ d = 4 ∨ d = 5 ∨ d = 6 ∨ d = 7 ∨ d = 8 ∨ d = 9 ∨ d = 10 ∨ d = 11 ∨ d = 12 ∨ d = 13 ∨ d = 14 ∨ d = 15 := by omega
  rcases e with rfl | rfl | rfl | rfl | rfl | rfl | rfl | rfl | rfl | rfl | rfl | rfl | rfl | rfl | rfl | rfl <;> decide +kernel
theorem strOfNums_app (xs ys : List Int) : strOfNums xs ++ strOfNums ys = strOfNums (xs ++ ys) := by
  apply ByteArray.ext
  rw [ByteArray.data_append]
  simp [strOfNums]
theorem hexT_step (x : Int) (j : Nat) (hj : j < 16) : strOfNums [hexC (x / 16 ^ j % 16)] ++ hexT x j = hexT x (j + 1) := by
  unfold hexT
  rw [strOfNums_app]
  congr 1
  have h := List.drop_eq_getElem_cons (i := 16 - (j + 1)) (l := hexL x) (by simp [hexL]; omega)
  rw [h, show 16 - (j + 1) + 1 = 16 - j by omega]
  congr 1
  have := hexL_getD x (k := 16 - (j + 1)) (by omega)
  rw [List.getD_eq_getElem?_getD, List.getElem?_eq_getElem (by simp [hexL]; omega), Option.getD_some, show 15 - (16 - (j + 1)) = j by omega] at this
  rw [this]
  rfl
theorem hexT_size (x : Int) (j : Nat) (hj : j ≤ 16) : (hexT x j).size = j := by unfold hexT; rw [strOfNums_size]; simp [hexL]; omega

set_option maxHeartbeats 2000000 in
theorem RHex_any (x : Int) (hx : isU64 x) (w : World) : Calls Try.prog 44 #[.int .u64 x] w fun e w' => e = .returned (.string (hexS x)) ∧ w = w' := by
  have HX := hide (div_in hx)
  have h0 := hexT_none x
  have hA := hexT_all x
  clear hx
  go_enter Try.func44, Try.ntmps44
  go_wp2_with fail
  go_loopw [3, 4, 5] (fun s y i wr => ∃ j : Nat, j ≤ 16 ∧ i = .int .i64 j ∧ y = .int .u64 (x / 16 ^ j) ∧ s = .string (hexT x j) ∧ w = wr) (fun _ _ i _ => 16 - (intOf i).toNat)
  case atStart => exact ⟨0, Nat.zero_le _, rfl, by simp, by rw [h0], rfl⟩
  case round =>
    obtain ⟨j, hj, rfl, rfl, rfl, rfl⟩ := hrel
    by_cases hlt : j < 16
    · have hy := HX.out j
      have hs := hide (show x / 16 ^ (j + 1) = x / 16 ^ j / 16 by rw [Int.pow_succ, Int.ediv_ediv_of_nonneg (Int.le_of_lt (Int.pow_pos (by decide)))])
      have ht := hide (hexT_step x j hlt)
      have hz1 := hexT_size x j hj
      generalize hexT x j = t at ht hz1 ⊢
      generalize x / 16 ^ j = y at hy hs ht ⊢
      obtain ⟨y1, y2⟩ := hy
      have hm : y.tmod 16 = y % 16 := Int.tmod_eq_emod_of_nonneg y1
      have hq : y.tdiv 16 = y / 16 := Int.tdiv_eq_ediv_of_nonneg y1
      have hd : 0 ≤ y % 16 ∧ y % 16 < 16 := by omega
      have hc := tbl_cut (y % 16) hd
      generalize y % 16 = d at hd hc ht hm
      have hw : IntKind.u64.wrap (d + 1) = d + 1 := by rw [IntKind.wrap_u64]; omega
      have hz2 : (strOfNums [hexC d]).size = 1 := strOfNums_size _
      have hz : (strOfNums [hexC d]).size + t.size ≤ 9223372036854775807 := by omega
      have hn : (d + 1).toNat = d.toNat + 1 := by omega
      go_wp2_with fail
      rw [ht.out]
      go_roundw
      case rel => exact ⟨j + 1, by omega, by go_num, by rw [hs.out], rfl, trivial⟩
      case measure => simp [intOf]; omega
    · obtain rfl : j = 16 := by omega
      rw [hA]
      generalize x / 16 ^ 16 = y
      go_wp2_with fail
      go_ret
      exact ⟨rfl, rfl⟩

end Go.Proofs.Ytnpjnegelhaaaaa
