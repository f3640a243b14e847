/-
Plain numbers: long division by digits of base 32768, with the first digits' guess and the search by halves; floors of quotients of either sign. No program, no statement.
-/
import Derived.Test.YtehkccogbgjcaaaNum
namespace Go.Proofs.Ytehkccogbgjcaaa

/-- the number of the upper j digits of n -/
def tp (f : Nat → Nat) (n : Nat) : Nat → Nat
  | 0 => 0
  | j + 1 => tp f n j * 32768 + f (n - 1 - j)
theorem tp_V (f : Nat → Nat) (n : Nat) : ∀ j, j ≤ n → V f n = tp f n j * 32768 ^ (n - j) + V f (n - j)
  | 0, _ => by simp [tp]
  | j + 1, h => by
    rw [tp_V f n j (by omega), tp]
    obtain ⟨m, hm⟩ : ∃ m, n - j = m + 1 := ⟨n - j - 1, by omega⟩
    rw [hm, show n - (j + 1) = m by omega, show n - 1 - j = m by omega, V, Nat.pow_succ, Nat.add_mul, Nat.mul_right_comm]
    rw [Nat.mul_assoc, Nat.mul_comm (32768 ^ m) 32768]
    omega
theorem tp_all (l : List Nat) : tp (dgn l) l.length l.length = val l := by
  have h := tp_V (dgn l) l.length l.length (Nat.le_refl _)
  rw [Nat.sub_self] at h
  simp [V] at h
  exact h.symm
theorem tp_le (f : Nat → Nat) (n j : Nat) (h : j ≤ n) : tp f n j * 32768 ^ (n - j) ≤ V f n := by have := tp_V f n j h; omega

/-- the upper half of a number that is cut at place m -/
theorem V_split (f : Nat → Nat) (m : Nat) : ∀ j, V f (m + j) = V (fun i => f (m + i)) j * 32768 ^ m + V f m
  | 0 => by simp [V]
  | j + 1 => by
    rw [← Nat.add_assoc, V, V_split f m j, V, Nat.add_mul, Nat.pow_add, Nat.mul_comm (32768 ^ m), ← Nat.mul_assoc]; omega

/-- what the first digits guess -/
def Guess (R B F T : Nat) : Prop := F / (T + 1) ≤ R / B ∧ R / B ≤ (F + 1) / T
theorem guess_one {R b0 : Nat} (hb : 0 < b0) : Guess R b0 (R * 32768) (b0 * 32768) := by
  constructor
  · rw [Nat.le_div_iff_mul_le hb]
    have h := Nat.div_mul_le_self (R * 32768) (b0 * 32768 + 1)
    rw [Nat.mul_add, ← Nat.mul_assoc] at h
    omega
  · rw [Nat.le_div_iff_mul_le (by omega)]
    have h := Nat.div_mul_le_self R b0
    rw [← Nat.mul_assoc]; omega
theorem guess_more {R B F T E rl bl : Nat} (hE : 0 < E) (hT : 0 < T) (hR : R = F * E + rl) (hB : B = T * E + bl) (hrl : rl < E) (hbl : bl < E) : Guess R B F T := by
  have hBp : 0 < B := by
    have : 1 * 1 ≤ T * E := Nat.mul_le_mul hT hE
    omega
  constructor
  · rw [Nat.le_div_iff_mul_le hBp]
    have h := Nat.div_mul_le_self F (T + 1)
    have h2 : F / (T + 1) * (T + 1) * E ≤ F * E := Nat.mul_le_mul_right _ h
    have h3 : F / (T + 1) * B ≤ F / (T + 1) * ((T + 1) * E) := Nat.mul_le_mul_left _ (by rw [Nat.add_mul]; omega)
    rw [← Nat.mul_assoc] at h3
    omega
  · rw [Nat.le_div_iff_mul_le hT]
    have h := Nat.div_mul_le_self R B
    have h2 : R / B * (T * E) ≤ R / B * B := Nat.mul_le_mul_left _ (by omega)
    have h3 : R / B * T * E < (F + 1) * E := by rw [Nat.add_mul, Nat.mul_assoc]; omega
    have h4 := Nat.lt_of_mul_lt_mul_right h3
    omega

theorem V2 (f : Nat → Nat) : V f 2 = f 0 + f 1 * 32768 := by simp [V]
theorem V3 (f : Nat → Nat) : V f 3 = (f 2 * 32768 + f 1) * 32768 + f 0 := by simp [V]; omega
/-- the first digits of a number of at most k + 1 digits, and of a divisor of k digits -/
theorem guess_digits {lr lb : List Nat} {k : Nat} (hk : lb.length = k + 1) (hr : lr.length ≤ k + 2) (dr : Dig lr) (db : Dig lb) (nb : Norm lb) :
    Guess (val lr) (val lb) ((dgn lr (k + 1) * 32768 + dgn lr k) * 32768 + (if k = 0 then 0 else dgn lr (k - 1))) (dgn lb k * 32768 + (if k = 0 then 0 else dgn lb (k - 1))) := by
  have ht : 0 < dgn lb k := by have := nb k hk; omega
  have eR : val lr = V (dgn lr) (k + 2) := (val_V hr).symm
  have eB : val lb = V (dgn lb) (k + 1) := (val_V (by omega)).symm
  cases k with
  | zero =>
    rw [if_pos rfl, if_pos rfl, eR, eB]
    have := guess_one (R := V (dgn lr) (0 + 2)) ht
    simp [V] at this ⊢
    rw [show dgn lr 0 + dgn lr 1 * 32768 = dgn lr 1 * 32768 + dgn lr 0 by omega] at this ⊢
    exact this
  | succ m =>
    rw [if_neg (by omega), if_neg (by omega), eR, eB]
    have e1 := V_split (dgn lr) m 3
    have e2 := V_split (dgn lb) m 2
    have l1 := V_lt (f := dgn lr) (n := m) (fun k _ => dr k)
    have l2 := V_lt (f := dgn lb) (n := m) (fun k _ => db k)
    refine guess_more (E := 32768 ^ m) (Nat.pow_pos (by omega)) (by omega) (rl := V (dgn lr) m) (bl := V (dgn lb) m) ?_ ?_ l1 l2
    · rw [show m + 1 + 2 = m + 3 by omega, e1, V3]
      rfl
    · rw [show m + 1 + 1 = m + 2 by omega, e2, V2, show m + 1 - 1 = m by omega, Nat.add_comm (dgn lb (m + 0))]
      rfl

/-- the search by halves -/
def Srch (R B lo hi : Nat) : Prop := lo ≤ R / B ∧ R / B ≤ hi ∧ hi ≤ 32767
theorem Srch.yes {R B lo hi m : Nat} (h : Srch R B lo hi) (hB : 0 < B) (hm : m * B ≤ R) : Srch R B m hi := ⟨by rw [Nat.le_div_iff_mul_le hB]; exact hm, h.2.1, h.2.2⟩
theorem Srch.no {R B lo hi m : Nat} (h : Srch R B lo hi) (hB : 0 < B) (hm : R < m * B) (h0 : 0 < m) (hmh : m ≤ hi) : Srch R B lo (m - 1) := by
  have : R / B < m := by rw [Nat.div_lt_iff_lt_mul hB]; exact hm
  exact ⟨h.1, by omega, by have := h.2.2; omega⟩
theorem Srch.done {R B lo hi : Nat} (h : Srch R B lo hi) (hle : hi ≤ lo) : lo = R / B := by have := h.1; have := h.2.1; omega

/-- one step of the long division: the digit and what is left -/
theorem long_step {t q r B a Q : Nat} (h : q * B + r = t) (hQ : Q = (r * 32768 + a) / B) :
    (Q + 32768 * q) * B + (r * 32768 + a - Q * B) = t * 32768 + a := by
  have h1 : Q * B ≤ r * 32768 + a := by rw [hQ]; exact Nat.div_mul_le_self _ _
  rw [← h, Nat.add_mul, Nat.add_mul, Nat.mul_assoc 32768, Nat.mul_comm 32768 (q * B)]
  omega
theorem long_digit {r B a : Nat} (hr : r < B) (ha : a < 32768) : (r * 32768 + a) / B ≤ 32767 := by
  have : (r * 32768 + a) / B < 32768 := by
    rw [Nat.div_lt_iff_lt_mul (by omega)]; omega
  omega
theorem long_rest {R B : Nat} (hB : 0 < B) : R - R / B * B < B := by
  have h1 := Nat.div_add_mod R B
  have h2 := Nat.mod_lt R hB
  rw [Nat.mul_comm] at h1
  omega

/-- the floor of a quotient, by what is told of the sizes -/
theorem fdiv_same {x y : Nat} : Int.fdiv (x : Int) (y : Int) = ((x / y : Nat) : Int) := by rw [Int.fdiv_eq_ediv_of_nonneg _ (by omega)]; simp
theorem floor_unique {a b q r : Int} (h : a = q * b + r) (hr : (0 ≤ r ∧ r < b) ∨ (b < r ∧ r ≤ 0)) : Int.fdiv a b = q := by
  have hb : b ≠ 0 := by omega
  rcases hr with hr | hr
  · rw [Int.fdiv_eq_ediv_of_nonneg _ (by omega), h, Int.add_comm, Int.add_mul_ediv_right _ _ hb, Int.ediv_eq_zero_of_lt hr.1 hr.2]; omega
  · rw [← Int.neg_fdiv_neg, Int.fdiv_eq_ediv_of_nonneg _ (by omega), show -a = -r + q * -b by rw [h, Int.mul_neg]; omega, Int.add_mul_ediv_right _ _ (by omega), Int.ediv_eq_zero_of_lt (by omega) (by omega)]; omega
end Go.Proofs.Ytehkccogbgjcaaa
