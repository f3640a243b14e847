/-
Contracts of an image's digest: package hash's Image; the reference's four. No statement is proved here.
-/
import Derived.Test.YtnpjnegelhaaaaaHex2
import Derived.Test.YtnpjnegelhaaaaaPieces0
import Derived.IntWalk
namespace Go.Proofs.Ytnpjnegelhaaaaa
open Go.RowKit

/-- the k lowest bytes of a number -/
def fourL (n : Int) (k : Nat) : List Int := (List.range k).map fun j => n / 256 ^ j % 256
theorem fourL_succ (n : Int) (k : Nat) : fourL n (k + 1) = fourL n k ++ [n / 256 ^ k % 256] := by simp [fourL, List.range_succ]
theorem fourL_length (n : Int) (k : Nat) : (fourL n k).length = k := by simp [fourL]
theorem fourL_byte (n : Int) (k : Nat) : ∀ x ∈ fourL n k, 0 ≤ x ∧ x ≤ 255 := by
  intro x hx
  simp only [fourL, List.mem_map] at hx
  obtain ⟨j, _, rfl⟩ := hx
  generalize n / 256 ^ j = y
  omega
theorem fourL_four (n : Int) : fourL n 4 = [n % 256, n / 256 % 256, n / 65536 % 256, n / 16777216 % 256] := by
  simp [fourL, List.range_succ]
theorem four_byte (n : Int) {k : Nat} (hk : k < 4) : n % 18446744073709551616 / 256 ^ k % 256 = n / 256 ^ k % 256 := by
  have e : k = 0 ∨ k = 1 ∨ k = 2 ∨ k = 3 := by omega
  rcases e with rfl | rfl | rfl | rfl
  · show n % 18446744073709551616 / 1 % 256 = n / 1 % 256; omega
  · show n % 18446744073709551616 / 256 % 256 = n / 256 % 256; omega
  · show n % 18446744073709551616 / 65536 % 256 = n / 65536 % 256; omega
  · show n % 18446744073709551616 / 16777216 % 256 = n / 16777216 % 256; omega
theorem by_bytes (w : World) (xs : List Int) (h : ∀ x ∈ xs, 0 ≤ x ∧ x ≤ 255) (hm : xs.length ≤ 100000000) (T : TypeId) : BY (w.alloc (.cells (bytesV xs).toArray T)) (some ⟨w.heap.size, 0, none⟩) xs.length xs.length xs :=
  BY.ofBytes (Nat.le_refl _) (by unfold maxLen; omega) h (Bx.at (bytesV xs) T rfl)
/-- bytes of one's own, as many as are told -/
def OwnTold (w : World) (xs : List Int) (e : Ending) (w' : World) : Prop := ∃ v, e = .returned v ∧ w'.ownsRow w.heap.size 5 1 v xs.length (bytesV xs) ∧ Below w.heap.size w w'

set_option maxHeartbeats 2000000 in
set_option maxRecDepth 100000 in
theorem four_any (n : Int) (w : World) : Calls Try.prog 68 #[.int .i64 n] w (OwnTold w (fourL n 4)) := by
  have H0 := hide (Below.refl w.heap.size w)
  have hw0 : IntKind.u64.wrap n = n % 18446744073709551616 := IntKind.wrap_u64 _
  have hN : isU64 (n % 18446744073709551616) := by unfold isU64; omega
  have HB4 := hide (fun k (hk : k < 4) => four_byte n hk)
  obtain ⟨N, hNN⟩ : ∃ N, n % 18446744073709551616 = N := ⟨_, rfl⟩
  rw [hNN] at hw0 hN
  have HNN := Lib.hid hNN
  clear hNN
  go_enter Try.func68, Try.ntmps68
  go_wp2_with fail
  go_loopw [3, 4, 5] (fun x v i wr => ∃ k : Nat, k ≤ 4 ∧ i = .int .i64 k ∧ x = .int .u64 (N / 256 ^ k) ∧ wr.ownsRow w.heap.size 5 1 v k (bytesV (fourL n k)) ∧ Below w.heap.size w wr) (fun _ _ i _ => 4 - (intOf i).toNat)
  case atStart => exact ⟨0, Nat.zero_le _, rfl, by simp, World.ownsRow_nil _ _ _ _, H0.out⟩
  case round =>
    obtain ⟨k, hk, rfl, rfl, hO, hL⟩ := hrel
    by_cases hlt : k < 4
    · have hs := hide (show N / 256 ^ (k + 1) = N / 256 ^ k / 256 by rw [Int.pow_succ, Int.ediv_ediv_of_nonneg (Int.le_of_lt (Int.pow_pos (by decide)))])
      have hb := HB4.out k hlt
      rw [HNN.out] at hb
      have hy : isU64 (N / 256 ^ k) := by
        have hp : (0 : Int) < 256 ^ k := Int.pow_pos (by decide)
        exact ⟨Int.ediv_nonneg hN.1 (by omega), Int.le_trans (Int.ediv_le_self _ hN.1) hN.2⟩
      generalize N / 256 ^ k = y at hy hs hb ⊢
      obtain ⟨y1, y2⟩ := hy
      have hm : y.tmod 256 = y % 256 := Int.tmod_eq_emod_of_nonneg y1
      have hq : y.tdiv 256 = y / 256 := Int.tdiv_eq_ediv_of_nonneg y1
      have hd : 0 ≤ y % 256 ∧ y % 256 ≤ 255 := by omega
      have hsz := hL.size
      have hB1 := by_bytes wr [y % 256] (fun x hx => by simp at hx; omega) (by simp) 5
      have e1 : (bytesV [y % 256]).toArray = #[Value.int .u8 (y % 256)] := rfl
      rw [e1] at hB1
      obtain ⟨v', w3, hap, own3, bel3⟩ := append_more _ w.heap.size _ k (fourL n k) (hO.alloc _) (by simp; omega) _ 1 1 [y % 256] hB1 (by omega) 38
      rw [hb, ← fourL_succ] at own3
      have HL := hide (hL.alloc hsz (.cells #[Value.int .u8 (y % 256)] 5))
      have HL3 := hide (HL.out.trans bel3)
      have HO := hide own3
      clear hO hL hB1 e1 own3 bel3 HL hb
      generalize y % 256 = d at hd hm hap
      have hw : IntKind.u8.wrap d = d := by rw [IntKind.wrap_u8']; omega
      go_wp2_with (first | (at_builtin; refine wpList_append_run rfl _ _ _ rfl _ _ rfl rfl _ _ hap ?_) | fail)
      go_roundw
      case rel => exact ⟨k + 1, by omega, by go_num, by rw [hs.out], HO.out, HL3.out⟩
      case measure => simp [intOf]; omega
    · obtain rfl : k = 4 := by omega
      have HO := hide hO
      have HL := hide hL
      clear hO hL
      generalize N / 256 ^ 4 = y
      go_wp2_with fail
      go_ret
      exact ⟨_, rfl, by rw [fourL_length]; exact HO.out, HL.out⟩

end Go.Proofs.Ytnpjnegelhaaaaa
