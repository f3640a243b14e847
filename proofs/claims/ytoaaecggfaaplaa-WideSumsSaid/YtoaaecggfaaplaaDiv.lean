/-
Plain numbers: a quotient of two digits of base 2^32 by one normalized divisor, digit by digit. No program, no statement.
-/
import Derived.Lib.Hide
namespace Go.Proofs.Ytoaaecggfaaplaa

/-- the loop's state: a guess q of the digit, and what is left of the upper half -/
def DL (Y1 Y0 U u1 q r : Nat) : Prop := q * Y1 + r = U ∧ r < 4294967296 ∧ (U * 4294967296 + u1) / (Y1 * 4294967296 + Y0) ≤ q ∧ q ≤ 4294967297

/-- what the divisor is -/
def DY (Y1 Y0 : Nat) : Prop := 2147483648 ≤ Y1 ∧ Y1 < 4294967296 ∧ Y0 < 4294967296

theorem dl_mul (Y1 Y0 q : Nat) : q * (Y1 * 4294967296 + Y0) = q * Y1 * 4294967296 + q * Y0 := by rw [Nat.mul_add, Nat.mul_assoc]

theorem DL.start {Y1 Y0 U u1 : Nat} (hy : DY Y1 Y0) (hu : U < Y1 * 4294967296 + Y0) (h1 : u1 < 4294967296) : DL Y1 Y0 U u1 (U / Y1) (U - U / Y1 * Y1) := by
  obtain ⟨a1, a2, a3⟩ := hy
  have hm := Nat.div_add_mod U Y1
  have hr := Nat.mod_lt U (show 0 < Y1 by omega)
  rw [Nat.mul_comm] at hm
  have hq : U / Y1 ≤ 4294967297 := by
    have : U / Y1 < 4294967298 := by
      rw [Nat.div_lt_iff_lt_mul (by omega)]
      omega
    omega
  refine ⟨by omega, by omega, ?_, hq⟩
  have hlt : (U * 4294967296 + u1) / (Y1 * 4294967296 + Y0) < U / Y1 + 1 := by
    rw [Nat.div_lt_iff_lt_mul (by omega), dl_mul, Nat.add_mul]
    omega
  omega

/-- the digit itself is less than 2^32 -/
theorem dl_lt {Y1 Y0 U u1 : Nat} (hu : U < Y1 * 4294967296 + Y0) (h1 : u1 < 4294967296) : (U * 4294967296 + u1) / (Y1 * 4294967296 + Y0) < 4294967296 := by
  rw [Nat.div_lt_iff_lt_mul (by omega)]
  omega

theorem DL.down {Y1 Y0 U u1 q r : Nat} (h : DL Y1 Y0 U u1 q r) (hy : DY Y1 Y0) (hu : U < Y1 * 4294967296 + Y0) (h1 : u1 < 4294967296) (ht : 4294967296 ≤ q ∨ 4294967296 * r + u1 < q * Y0) :
    1 ≤ q ∧ (r + Y1 < 4294967296 → DL Y1 Y0 U u1 (q - 1) (r + Y1)) ∧ (4294967296 ≤ r + Y1 → q - 1 = (U * 4294967296 + u1) / (Y1 * 4294967296 + Y0)) := by
  obtain ⟨a1, a2, a3⟩ := hy
  obtain ⟨b1, b2, b3, b4⟩ := h
  have hl := dl_lt hu h1
  have hq : (U * 4294967296 + u1) / (Y1 * 4294967296 + Y0) < q := by
    rcases ht with ht | ht
    · omega
    · rw [Nat.div_lt_iff_lt_mul (show 0 < Y1 * 4294967296 + Y0 by clear ht b3; omega), dl_mul]
      omega
  have hq1 : 1 ≤ q := Nat.lt_of_le_of_lt (Nat.zero_le _) hq
  obtain ⟨k, rfl⟩ : ∃ k, q = k + 1 := ⟨q - 1, by omega⟩
  rw [Nat.add_mul] at b1
  have e : k + 1 - 1 = k := by omega
  rw [e]
  refine ⟨by omega, fun hr => ⟨by omega, hr, by omega, by omega⟩, fun hr => ?_⟩
  have hle : k ≤ (U * 4294967296 + u1) / (Y1 * 4294967296 + Y0) := by
    rw [Nat.le_div_iff_mul_le (by omega), dl_mul]
    have : k * Y0 ≤ 4294967296 * 4294967295 := Nat.mul_le_mul (by omega) (by omega)
    omega
  omega

theorem DL.out {Y1 Y0 U u1 q r : Nat} (h : DL Y1 Y0 U u1 q r) (hy : DY Y1 Y0) (ht : q * Y0 ≤ 4294967296 * r + u1) : q = (U * 4294967296 + u1) / (Y1 * 4294967296 + Y0) := by
  obtain ⟨a1, a2, a3⟩ := hy
  obtain ⟨b1, b2, b3, b4⟩ := h
  have hle : q ≤ (U * 4294967296 + u1) / (Y1 * 4294967296 + Y0) := by
    rw [Nat.le_div_iff_mul_le (by omega), dl_mul]
    omega
  omega

/-- what is left behind a digit, as it is reckoned modulo 2^64 -/
theorem dl_rest {Y U u1 q M : Nat} (hY : Y < 18446744073709551616) (hY0 : 0 < Y) (hM : M = U * 4294967296 + u1) (hq : q = M / Y) :
    (M % 18446744073709551616 + 18446744073709551616 - q * Y % 18446744073709551616) % 18446744073709551616 = M % Y ∧ M % Y < Y := by
  have h1 := Nat.div_add_mod M Y
  have h2 := Nat.mod_lt M hY0
  rw [← hq, Nat.mul_comm] at h1
  omega

/-- both digits together -/
theorem dl_both {A Y M1 M2 q1 q0 r1 u0 u1 U : Nat} (hY : 0 < Y) (h1 : M1 = U * 4294967296 + u1) (hA : A = M1 * 4294967296 + u0) (hq1 : q1 = M1 / Y) (hr1 : r1 = M1 % Y) (hM2 : M2 = r1 * 4294967296 + u0) (hq0 : q0 = M2 / Y) :
    q1 * 4294967296 + q0 = A / Y ∧ M2 % Y = A % Y := by
  have e1 := Nat.div_add_mod M1 Y
  have e2 := Nat.div_add_mod M2 Y
  have l2 := Nat.mod_lt M2 hY
  rw [← hq1, ← hr1] at e1
  rw [← hq0] at e2
  have hAe : A = M2 % Y + Y * (q1 * 4294967296 + q0) := by
    rw [Nat.mul_add, ← Nat.mul_assoc]; omega
  have h3 : A / Y = q1 * 4294967296 + q0 := by
    rw [hAe, Nat.add_mul_div_left _ _ hY, Nat.div_eq_of_lt l2]; omega
  have h4 : A % Y = M2 % Y := by
    rw [hAe, Nat.add_mul_mod_self_left, Nat.mod_eq_of_lt l2]
  exact ⟨h3.symm, h4.symm⟩

/-- the shift there and back -/
theorem dl_shift {N y s : Nat} : N * 2 ^ s / (y * 2 ^ s) = N / y ∧ N * 2 ^ s % (y * 2 ^ s) / 2 ^ s = N % y := by
  have hp : 0 < 2 ^ s := Nat.pow_pos (by omega)
  rw [Nat.mul_div_mul_right _ _ hp, Nat.mul_mod_mul_right, Nat.mul_div_cancel _ hp]
  exact ⟨rfl, rfl⟩

end Go.Proofs.Ytoaaecggfaaplaa
