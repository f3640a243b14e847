/-
Contract of math/bits.Div64: the quotient and what is left, for every dividend whose upper half is below the divisor. No statement is proved here.
-/
import Derived.Test.YtoaaecggfaaplaaDiv3
import Derived.Lib.ItoaNum
namespace Go.Proofs.Ytoaaecggfaaplaa
open Go.RowKit

theorem wrapu_nat (n : Nat) : IntKind.u64.wrap (n : Int) = ((n % 18446744073709551616 : Nat) : Int) := by rw [IntKind.wrap_u64]; omega
theorem wrapu_small {n : Nat} (h : n < 18446744073709551616) : IntKind.u64.wrap (n : Int) = (n : Int) := by rw [IntKind.wrap_u64]; omega
theorem wrapu_sub (a b : Nat) : IntKind.u64.wrap ((a : Int) - (b : Int)) = (((a + 18446744073709551616 - b % 18446744073709551616) % 18446744073709551616 : Nat) : Int) := by rw [IntKind.wrap_u64]; omega
theorem natpow (s : Nat) : ((2 ^ s : Nat) : Int) = (2 : Int) ^ s := by simp

/-- the digits of one step, as the walk reckons them -/
theorem step_words {Y U u1 Q M T : Nat} (hY : Y < 18446744073709551616) (hY0 : 0 < Y) (hM : M = U * 4294967296 + u1) (hQ : Q = M / Y) (hT : T = M % Y) :
    IntKind.u64.wrap (((((U * 4294967296) % 18446744073709551616 + u1) % 18446744073709551616 : Nat) : Int) - ((Q * Y % 18446744073709551616 : Nat) : Int)) = (T : Int) := by
  rw [wrapu_sub]
  have h := (dl_rest (U := U) (u1 := u1) hY hY0 hM hQ).1
  rw [← hT] at h
  rw [← h, hM]
  congr 1
  omega

theorem norm_s (y : Nat) (hy : 0 < y) (h2 : y < 18446744073709551616) : ∃ s : Nat, ((s : Int) = 64 - (Lib.bitLen y : Int)) ∧ s ≤ 63 ∧ 9223372036854775808 ≤ y * 2 ^ s ∧ y * 2 ^ s < 18446744073709551616 := by
  obtain ⟨hb, h5, h3⟩ := Lib.bitLenAux_bounds 64 y h2 (by omega)
  have eb : Lib.bitLen y = Lib.bitLenAux 64 y := rfl
  rw [← eb] at hb h5 h3
  have hb2 : Lib.bitLen y ≤ 64 := by
    by_cases h : Lib.bitLen y ≤ 64
    · exact h
    · have : 2 ^ 64 ≤ 2 ^ (Lib.bitLen y - 1) := Nat.pow_le_pow_right (by omega) (by omega)
      omega
  refine ⟨64 - Lib.bitLen y, by omega, by omega, ?_, ?_⟩
  · have : 2 ^ (Lib.bitLen y - 1) * 2 ^ (64 - Lib.bitLen y) = 9223372036854775808 := by
      rw [← Nat.pow_add, show Lib.bitLen y - 1 + (64 - Lib.bitLen y) = 63 by omega]
    rw [← this]; exact Nat.mul_le_mul_right _ h5
  · have : 2 ^ Lib.bitLen y * 2 ^ (64 - Lib.bitLen y) = 18446744073709551616 := by
      rw [← Nat.pow_add, show Lib.bitLen y + (64 - Lib.bitLen y) = 64 by omega]
    rw [← this]; exact Nat.mul_lt_mul_of_pos_right h3 (Nat.pow_pos (by omega))

set_option maxRecDepth 100000 in
theorem Div64_any (hi lo y : Nat) (w : World) (hlt : hi < y) (h1 : lo < 18446744073709551616) (h2 : y < 18446744073709551616) :
    Calls Try.prog 54 #[.int .u64 hi, .int .u64 lo, .int .u64 y] w (DivPost w ((hi * 18446744073709551616 + lo) / y) ((hi * 18446744073709551616 + lo) % y)) := by
  rcases Nat.eq_zero_or_pos hi with h0 | h0
  · subst h0
    simp only [Nat.zero_mul, Nat.zero_add]
    exact Div64_low lo y w (by omega) (by omega) hlt
  · obtain ⟨s, hs, hs1, hn1, hn2⟩ := norm_s y (by omega) h2
    have hp : 0 < 2 ^ s := Nat.pow_pos (by omega)
    have hpp : 2 ^ (64 - s) * 2 ^ s = 18446744073709551616 := by rw [← Nat.pow_add, show 64 - s + s = 64 by omega]
    have hlo : lo / 2 ^ (64 - s) < 2 ^ s := Nat.div_lt_of_lt_mul (by rw [hpp]; exact h1)
    obtain ⟨Y, hY⟩ : ∃ Y, Y = y * 2 ^ s := ⟨_, rfl⟩
    obtain ⟨U, hU⟩ : ∃ U, U = hi * 2 ^ s + lo / 2 ^ (64 - s) := ⟨_, rfl⟩
    obtain ⟨L, hL⟩ : ∃ L, L = lo * 2 ^ s % 18446744073709551616 := ⟨_, rfl⟩
    have hAL : lo * 2 ^ s / 18446744073709551616 = lo / 2 ^ (64 - s) := by rw [← hpp, Nat.mul_div_mul_right _ _ hp]
    have hA : (hi * 18446744073709551616 + lo) * 2 ^ s = U * 18446744073709551616 + L := by
      have h3 := Nat.div_add_mod (lo * 2 ^ s) 18446744073709551616
      rw [hAL, ← hL] at h3
      rw [Nat.add_mul, Nat.mul_right_comm, hU, Nat.add_mul]
      omega
    have hUY : U < Y := by
      have : (hi + 1) * 2 ^ s ≤ y * 2 ^ s := Nat.mul_le_mul_right _ hlt
      rw [Nat.add_mul] at this
      omega
    rw [← hY] at hn1 hn2
    have hhi : hi * 2 ^ s < 18446744073709551616 := by omega
    obtain ⟨Y1, hY1⟩ : ∃ Y1, Y1 = Y / 4294967296 := ⟨_, rfl⟩
    obtain ⟨Y0, hY0⟩ : ∃ Y0, Y0 = Y % 4294967296 := ⟨_, rfl⟩
    obtain ⟨u1, hu1⟩ : ∃ u1, u1 = L / 4294967296 := ⟨_, rfl⟩
    obtain ⟨u0, hu0⟩ : ∃ u0, u0 = L % 4294967296 := ⟨_, rfl⟩
    have hYe : Y1 * 4294967296 + Y0 = Y := by omega
    have dy : DY Y1 Y0 := by unfold DY; omega
    have hLb : L < 18446744073709551616 := by omega
    have hu1b : u1 < 4294967296 := by omega
    have hu0b : u0 < 4294967296 := by omega
    have d1 := DL.start dy (show U < Y1 * 4294967296 + Y0 by omega) hu1b
    obtain ⟨M1, hM1⟩ : ∃ M1, M1 = U * 4294967296 + u1 := ⟨_, rfl⟩
    obtain ⟨T, hT⟩ : ∃ T, T = M1 % Y := ⟨_, rfl⟩
    have hTY : T < Y := by rw [hT]; exact Nat.mod_lt _ (by omega)
    have d2 := DL.start dy (show T < Y1 * 4294967296 + Y0 by omega) hu0b
    obtain ⟨M2, hM2⟩ : ∃ M2, M2 = T * 4294967296 + u0 := ⟨_, rfl⟩
    have hQ1 := dl_lt (show U < Y1 * 4294967296 + Y0 by omega) hu1b
    have hQ0 := dl_lt (show T < Y1 * 4294967296 + Y0 by omega) hu0b
    have hYpos : 0 < Y := Nat.lt_of_lt_of_le (by decide) hn1
    have hA2 : (hi * 18446744073709551616 + lo) * 2 ^ s = M1 * 4294967296 + u0 := by
      rw [hA, hM1]
      clear hA hAL hpp hlo hU hL hn1 hn2 hT hTY d1 d2 hM2 hQ1 hQ0 hUY hY1 hY0 hYe dy
      omega
    have both := dl_both (A := (hi * 18446744073709551616 + lo) * 2 ^ s) (Y := Y) (M1 := M1) (M2 := M2) (q1 := M1 / Y) (q0 := M2 / Y) (r1 := T) (u0 := u0) (u1 := u1) (U := U) hYpos hM1 hA2 rfl hT hM2 rfl
    have sh := dl_shift (N := hi * 18446744073709551616 + lo) (y := y) (s := s)
    rw [← hY] at sh
    rw [← both.1, ← both.2] at sh
    have k1 : U / Y1 * Y1 ≤ U := Nat.div_mul_le_self _ _
    have k2 : T / Y1 * Y1 ≤ T := Nat.div_mul_le_self _ _
    have k3 : U / Y1 ≤ U := Nat.div_le_self _ _
    have k4 : T / Y1 ≤ T := Nat.div_le_self _ _
    rw [← sh.1, ← sh.2]
    rw [hYe] at hQ1 hQ0
    rw [← hM1] at hQ1
    rw [← hM2] at hQ0
    have f1 : (y : Int) ≤ 18446744073709551615 := by omega
    have f2 : 2147483648 ≤ Y1 := by omega
    have f3 : Y1 ≤ 4294967295 := by omega
    have f4 : Y0 ≤ 4294967295 := by omega
    have f5 : 0 < Y := by omega
    have e1 : IntKind.u64.wrap ((y : Int) * 2 ^ s) = (Y : Int) := by rw [← natpow, ← Int.natCast_mul, ← hY]; exact wrapu_small hn2
    have e2 : (Y : Int) / 4294967296 = (Y1 : Int) := by rw [hY1]; rfl
    have e3 : bits .and .u64 (Y : Int) 4294967295 = (Y0 : Int) := by rw [and_low32 _ (by omega) (by omega), hY0]; rfl
    have e5 : IntKind.u64.wrap ((lo : Int) * 2 ^ s) = (L : Int) := by rw [← natpow, ← Int.natCast_mul, hL]; exact wrapu_nat _
    have e4 : bits .or .u64 (IntKind.u64.wrap ((hi : Int) * 2 ^ s)) ((lo : Int) / 2 ^ (64 - s)) = (U : Int) := by
      rw [← natpow, ← natpow, ← Int.natCast_mul, wrapu_small hhi, ← Int.natCast_ediv, bits_or_u64_nat _ _ hhi (by omega), hU]
      congr 1
      rw [Nat.mul_comm, ← Nat.two_pow_add_eq_or_of_lt hlo]
    have e6 : (L : Int) / 4294967296 = (u1 : Int) := by rw [hu1]; rfl
    have e7 : bits .and .u64 (L : Int) 4294967295 = (u0 : Int) := by rw [and_low32 _ (by omega) (by omega), hu0]; rfl
    have hUb : U < 18446744073709551616 := by omega
    have hTb : T < 18446744073709551616 := by omega
    have e8 : IntKind.u64.wrap ((U : Int) / (Y1 : Int)) = ((U / Y1 : Nat) : Int) := by rw [← Int.natCast_ediv]; exact wrapu_small (Nat.lt_of_le_of_lt k3 hUb)
    have e9 : IntKind.u64.wrap (((U / Y1 : Nat) : Int) * (Y1 : Int)) = ((U / Y1 * Y1 : Nat) : Int) := by rw [← Int.natCast_mul]; exact wrapu_small (Nat.lt_of_le_of_lt k1 hUb)
    have e10 : IntKind.u64.wrap ((U : Int) - ((U / Y1 * Y1 : Nat) : Int)) = ((U - U / Y1 * Y1 : Nat) : Int) := by rw [← Int.ofNat_sub k1]; exact wrapu_small (Nat.lt_of_le_of_lt (Nat.sub_le _ _) hUb)
    have e11 : IntKind.u64.wrap ((T : Int) / (Y1 : Int)) = ((T / Y1 : Nat) : Int) := by rw [← Int.natCast_ediv]; exact wrapu_small (Nat.lt_of_le_of_lt k4 hTb)
    have e12 : IntKind.u64.wrap (((T / Y1 : Nat) : Int) * (Y1 : Int)) = ((T / Y1 * Y1 : Nat) : Int) := by rw [← Int.natCast_mul]; exact wrapu_small (Nat.lt_of_le_of_lt k2 hTb)
    have e13 : IntKind.u64.wrap ((T : Int) - ((T / Y1 * Y1 : Nat) : Int)) = ((T - T / Y1 * Y1 : Nat) : Int) := by rw [← Int.ofNat_sub k2]; exact wrapu_small (Nat.lt_of_le_of_lt (Nat.sub_le _ _) hTb)
    have w1 : ∀ x : Nat, IntKind.u64.wrap ((x : Int) * 4294967296) = ((x * 4294967296 % 18446744073709551616 : Nat) : Int) := fun x => wrapu_nat (x * 4294967296)
    have w2 : ∀ x z : Nat, IntKind.u64.wrap ((x : Int) + (z : Int)) = (((x + z) % 18446744073709551616 : Nat) : Int) := fun x z => wrapu_nat (x + z)
    have w3 : ∀ x z : Nat, IntKind.u64.wrap ((x : Int) * (z : Int)) = ((x * z % 18446744073709551616 : Nat) : Int) := fun x z => by rw [← Int.natCast_mul]; exact wrapu_nat (x * z)
    have v1 : u1 ≤ 4294967295 := by omega
    have v0 : u0 ≤ 4294967295 := by omega
    have v2 : M1 / Y ≤ 4294967295 := Nat.le_of_lt_succ hQ1
    have v3 : M2 / Y ≤ 4294967295 := Nat.le_of_lt_succ hQ0
    have x1 : U < Y1 * 4294967296 + Y0 := by rw [hYe]; exact hUY
    have x2 : T < Y1 * 4294967296 + Y0 := by rw [hYe]; exact hTY
    have x3 : M1 / Y = (U * 4294967296 + u1) / (Y1 * 4294967296 + Y0) := by rw [hYe, hM1]
    have x4 : M2 / Y = (T * 4294967296 + u0) / (Y1 * 4294967296 + Y0) := by rw [hYe, hM2]
    have y1 : ((M1 / Y : Nat) : Int) * 4294967296 + ((M2 / Y : Nat) : Int) = ((M1 / Y * 4294967296 + M2 / Y : Nat) : Int) := by rw [Int.natCast_add, Int.natCast_mul]; rfl
    have y2 : ((M2 % Y : Nat) : Int) / 2 ^ s = ((M2 % Y / 2 ^ s : Nat) : Int) := by rw [← natpow, ← Int.natCast_ediv]
    exact Div64_high hi lo y s Y Y1 Y0 U L u1 u0 (U / Y1) (U / Y1 * Y1) (U - U / Y1 * Y1) (M1 / Y) _ _ _ T
      (T / Y1) (T / Y1 * Y1) (T - T / Y1 * Y1) (M2 / Y) _ _ _ (M2 % Y) w h0 hlt f1 hs hs1 e1 e2 e3 f2 f3 f4 e4 e5 e6 e7 v1 v0 e8 e9 e10 d1 dy x1 hu1b hu0b x3 v2 (w1 _) (w2 _ _) (w3 _ _) (step_words hn2 f5 hM1 rfl hT) e11 e12 e13 d2 x2 x4 v3 (w1 _) (w2 _ _) (w3 _ _) (step_words hn2 f5 hM2 rfl rfl) _ _ y1 y2

end Go.Proofs.Ytoaaecggfaaplaa
