/-
Digits as numbers: what a text of digits is. No program, no statement.
-/
import Derived.Test.YtnpjnegelhaaaaaHash2
namespace Go.Proofs.Ytnpjnegelhaaaaa
open Go.RowKit

/-- which digit a byte is, and whether it is one -/
def digN (b : Int) : Int := if 48 ≤ b ∧ b ≤ 57 then b - 48 else if 97 ≤ b ∧ b ≤ 102 then b - 87 else 0
def digB (b : Int) : Bool := decide ((48 ≤ b ∧ b ≤ 57) ∨ (97 ≤ b ∧ b ≤ 102))
theorem digN_in (b : Int) : 0 ≤ digN b ∧ digN b < 16 := by unfold digN; split; omega; split <;> omega
/-- the table's k'th digit -/
def digC (k : Nat) : Int := hexC k
/-- the place of the last one of the first k digits that is this byte; 99: none is -/
def digF (b : Int) : Nat → Int
  | 0 => 99
  | k + 1 => if hexC k = b then (k : Int) else digF b k
theorem hexC_inj {i j : Int} (hi : 0 ≤ i ∧ i < 16) (hj : 0 ≤ j ∧ j < 16) (h : hexC i = hexC j) : i = j := by
  unfold hexC at h
  split at h <;> split at h <;> omega
theorem digF_none {b : Int} : ∀ k, (∀ j, j < k → hexC (j : Nat) ≠ b) → digF b k = 99
  | 0, _ => rfl
  | k + 1, h => by rw [digF, if_neg (h k (by omega)), digF_none k (fun j hj => h j (by omega))]
theorem digF_hit {j : Nat} : ∀ k, k ≤ 16 → j < k → digF (hexC j) k = j
  | 0, _, h => absurd h (Nat.not_lt_zero _)
  | k + 1, hk, h => by
    rw [digF]
    by_cases q : k = j
    · subst q; rw [if_pos rfl]
    · rw [if_neg (fun e => q (by have := hexC_inj (i := (k : Int)) (j := (j : Int)) (by omega) (by omega) e; omega)), digF_hit k (by omega) (by omega)]
theorem hexC_digN {b : Int} (h : digB b = true) : hexC (digN b) = b := by
  unfold digB at h
  rw [decide_eq_true_eq] at h
  by_cases q : 48 ≤ b ∧ b ≤ 57
  · have e : digN b = b - 48 := by unfold digN; rw [if_pos q]
    rw [e]; unfold hexC; rw [if_pos (by omega)]; omega
  · have e : digN b = b - 87 := by unfold digN; rw [if_neg q, if_pos (by omega)]
    rw [e]; unfold hexC; rw [if_neg (by omega)]; omega
theorem digB_hexC {d : Int} (h : 0 ≤ d ∧ d < 16) : digB (hexC d) = true := by
  unfold digB hexC
  rw [decide_eq_true_eq]
  split <;> omega
theorem digF_all (b : Int) : digF b 16 = if digB b = true then digN b else 99 := by
  by_cases q : digB b = true
  · rw [if_pos q]
    have h1 := digN_in b
    have h2 := digF_hit (j := (digN b).toNat) 16 (Nat.le_refl _) (by omega)
    rw [show (((digN b).toNat : Nat) : Int) = digN b by omega, hexC_digN q] at h2
    exact h2
  · rw [if_neg q]
    exact digF_none 16 (fun j hj e => q (by rw [← e]; exact digB_hexC (by omega)))
/-- the number of the first k digits of a text -/
def rdX (l : List Int) : Nat → Int
  | 0 => 0
  | k + 1 => (rdX l k * 16 + digN (l.getD k 0)) % 18446744073709551616
/-- whether the first k bytes are digits -/
def rdB (l : List Int) : Nat → Bool
  | 0 => true
  | k + 1 => rdB l k && digB (l.getD k 0)
theorem rdX_in (l : List Int) : ∀ k, isU64 (rdX l k)
  | 0 => by unfold rdX isU64; omega
  | k + 1 => by unfold rdX isU64; omega
theorem rdB_mono {l : List Int} {k : Nat} (h : rdB l k = false) : ∀ m, rdB l (k + m) = false
  | 0 => h
  | m + 1 => by rw [← Nat.add_assoc, rdB, rdB_mono h m, Bool.false_and]
/-- what a text of any length is: the number, and whether it is one -/
def readX (l : List Int) : Int := if l.length = 16 ∧ rdB l 16 = true then rdX l 16 else 0
def readB (l : List Int) : Bool := decide (l.length = 16 ∧ rdB l 16 = true)
theorem digN_hexC {d : Int} (h : 0 ≤ d ∧ d < 16) : digN (hexC d) = d ∧ digB (hexC d) = true := by
  unfold digN digB hexC
  simp only [decide_eq_true_eq]
  by_cases q : d < 10
  · rw [if_pos q, if_pos (by omega)]; omega
  · rw [if_neg q, if_neg (by omega), if_pos (by omega)]; omega
theorem hexL_getD (x : Int) {k : Nat} (hk : k < 16) : (hexL x).getD k 0 = hexC (x / 16 ^ (15 - k) % 16) := by
  simp only [hexL, List.getD_eq_getElem?_getD, List.getElem?_map, List.getElem?_range hk, Option.map_some, Option.getD_some]
theorem hexL_back {x : Int} (hx : isU64 x) : ∀ k, k ≤ 16 → rdB (hexL x) k = true ∧ rdX (hexL x) k = x / 16 ^ (16 - k)
  | 0, _ => by
    refine ⟨rfl, ?_⟩
    obtain ⟨h1, h2⟩ := hx
    show (0 : Int) = x / 16 ^ 16
    rw [Int.ediv_eq_zero_of_lt h1 (by omega)]
  | k + 1, hk => by
    obtain ⟨h1, h2⟩ := hexL_back hx k (by omega)
    have hd := digN_hexC (d := x / 16 ^ (15 - k) % 16) (by omega)
    have hi := div_in hx (15 - k)
    have e1 : (16 : Int) ^ (16 - k) = 16 ^ (15 - k) * 16 := by rw [← Int.pow_succ]; congr 1; omega
    have e2 : x / 16 ^ (16 - k) = x / 16 ^ (15 - k) / 16 := by rw [e1, Int.ediv_ediv_of_nonneg (Int.le_of_lt (Int.pow_pos (by decide)))]
    refine ⟨by rw [rdB, h1, hexL_getD x (by omega), hd.2]; rfl, ?_⟩
    rw [rdX, h2, hexL_getD x (by omega), hd.1, e2, show 16 - (k + 1) = 15 - k by omega]
    obtain ⟨i1, i2⟩ := hi
    generalize x / 16 ^ (15 - k) = y at *
    omega
theorem hexL_read {x : Int} (hx : isU64 x) : readX (hexL x) = x ∧ readB (hexL x) = true := by
  obtain ⟨h1, h2⟩ := hexL_back hx 16 (by omega)
  have hl : (hexL x).length = 16 := by simp [hexL]
  unfold readX readB
  rw [if_pos ⟨hl, h1⟩, h2]
  exact ⟨by simp, by simp [hl, h1]⟩

end Go.Proofs.Ytnpjnegelhaaaaa
