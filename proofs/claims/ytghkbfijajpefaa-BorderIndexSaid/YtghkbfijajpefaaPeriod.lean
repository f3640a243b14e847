/-
Contract of layer 8's fixed facts. The law BorderPeriod: its walk. No statement is proved here.
-/
import Derived.Test.YtghkbfijajpefaaBord2
import Derived.BigQuiet
import Derived.Deep.QuietTactic
import Derived.Lib.CleanWalkFns
namespace Go.Proofs.Ytghkbfijajpefaa
open Go.RowKit

theorem alive8_any (w : World) : Calls Try.prog 12 #[] w (Says w (.bool true)) := by
  have H1 := hide (fun w => Index_any 3 (-1) 3 (by omega) (by omega) w)
  have H2 := hide (fun w => Index_any 3 5 3 (by omega) (by omega) w)
  have H3 := hide (fun w => Index_any 2 (-1) 3 (by omega) (by omega) w)
  rw [show idxV 3 (-1) 3 = 0 by decide, show idxB 3 (-1) 3 = true by decide] at H1
  rw [show idxV 3 5 3 = 0 by decide, show idxB 3 5 3 = true by decide] at H2
  rw [show idxV 2 (-1) 3 = 2 by decide, show idxB 2 (-1) 3 = true by decide] at H3
  go_enter Try.func12, Try.ntmps12
  go_wp2_with fail
  refine (H1.out _).mono ?_
  rintro e w1 ⟨rfl, hb⟩
  have B1 := hide hb
  clear hb
  go_wp2_with fail
  refine (H2.out _).mono ?_
  rintro e w2 ⟨rfl, hb⟩
  have B2 := hide (B1.out.trans (hb.mono B1.out.size))
  clear hb
  go_wp2_with fail
  refine (H3.out _).mono ?_
  rintro e w3 ⟨rfl, hb⟩
  have B3 := hide (B2.out.trans (hb.mono B2.out.size))
  clear hb
  go_wp2_with fail
  go_ret
  exact ⟨rfl, B3.out⟩

theorem mir_in {i n : Int} (h0 : 0 ≤ i) (h1 : i < n) : mirV i n = i := by
  have e1 : i / n = 0 := Int.ediv_eq_zero_of_lt h0 h1
  have e2 : i % n = i := Int.emod_eq_of_lt h0 h1
  simp [mirV, e1, e2]
theorem idx_wrap {i n : Int} (hn : 1 ≤ n) : idxV 2 i n = i % n := by
  have ho : okM 2 n = true := by simp [okM]; omega
  unfold idxV
  rw [ho, if_neg (by decide)]
  by_cases h : 0 ≤ i ∧ i < n
  · rw [if_pos h, Int.emod_eq_of_lt h.1 h.2]
  · rw [if_neg h]; simp
theorem idx_mir {i n : Int} (hn : 1 ≤ n) : idxV 3 i n = mirV i n := by
  have ho : okM 3 n = true := by simp [okM]; omega
  unfold idxV
  rw [ho, if_neg (by decide)]
  by_cases h : 0 ≤ i ∧ i < n
  · rw [if_pos h, mir_in h.1 h.2]
  · rw [if_neg h]; simp
theorem idx_clamp {i n : Int} (hn : 1 ≤ n) : idxV 1 i n = if i < 0 then 0 else if i < n then i else n - 1 := by
  have ho : okM 1 n = true := by simp [okM]; omega
  unfold idxV
  rw [ho, if_neg (by decide)]
  by_cases h : 0 ≤ i ∧ i < n
  · rw [if_pos h, if_neg (by omega), if_pos h.2]
  · rw [if_neg h]
    simp only [show ¬ (1 : Int) = 0 by decide, if_false, if_true]
    by_cases k : i < 0
    · rw [if_pos k, if_pos k]
    · rw [if_neg k, if_neg k, if_neg (by omega)]
theorem idxB_on {m i n : Int} (hn : 1 ≤ n) (hm : 1 ≤ m ∧ m ≤ 3) : idxB m i n = true := by
  have ho : okM m n = true := by simp [okM]; omega
  unfold idxB
  rw [ho]
  simp; omega
theorem wrap_per {i n t : Int} : (i + t * n) % n = i % n := Int.add_mul_emod_self_right ..
theorem mir_per {i n t : Int} (hn : 1 ≤ n) : mirV (i + t * (2 * n)) n = mirV i n := by
  have e : i + t * (2 * n) = i + (2 * t) * n := by rw [← Int.mul_assoc, Int.mul_comm t 2]
  have e1 : (i + (2 * t) * n) / n = i / n + 2 * t := Int.add_mul_ediv_right _ _ (by omega)
  have e2 : (i + (2 * t) * n) % n = i % n := Int.add_mul_emod_self_right ..
  unfold mirV
  rw [e, e1, e2]
  have : (i / n + 2 * t) % 2 = (i / n) % 2 := by omega
  rw [this]
theorem mir_step {i n : Int} (hn : 1 ≤ n) : mirV i n - mirV (i + 1) n ≤ 1 ∧ mirV (i + 1) n - mirV i n ≤ 1 ∧ 0 ≤ mirV i n ∧ mirV i n < n := by
  have h1 := Int.emod_nonneg i (show n ≠ 0 by omega)
  have h2 := Int.emod_lt_of_pos i (show 0 < n by omega)
  have h3 := Int.emod_add_mul_ediv i n
  obtain ⟨q, hq⟩ : ∃ q, i / n = q := ⟨_, rfl⟩
  obtain ⟨r, hr⟩ : ∃ r, i % n = r := ⟨_, rfl⟩
  rw [hq, hr] at h3
  rw [hr] at h1 h2
  unfold mirV
  rw [hq, hr]
  by_cases h : r = n - 1
  · have hs : i + 1 = 0 + (q + 1) * n := by rw [Int.add_mul, Int.mul_comm q n]; omega
    have e1 : (i + 1) / n = q + 1 := by rw [hs, Int.add_mul_ediv_right _ _ (by omega)]; simp
    have e2 : (i + 1) % n = 0 := by rw [hs, Int.add_mul_emod_self_right]; simp
    rw [e1, e2]
    by_cases p : q % 2 = 0
    · rw [if_pos p, if_neg (by omega)]; omega
    · rw [if_neg p, if_pos (by omega)]; omega
  · have hs : i + 1 = (r + 1) + q * n := by rw [Int.mul_comm q n]; omega
    have e0 : (r + 1) / n = 0 := Int.ediv_eq_zero_of_lt (by omega) (by omega)
    have e1 : (i + 1) / n = q := by rw [hs, Int.add_mul_ediv_right _ _ (by omega), e0]; omega
    have e2 : (i + 1) % n = r + 1 := by rw [hs, Int.add_mul_emod_self_right, Int.emod_eq_of_lt (by omega) (by omega)]
    rw [e1, e2]
    by_cases p : q % 2 = 0
    · rw [if_pos p, if_pos p]; omega
    · rw [if_neg p, if_neg p]; omega
theorem clamp_step {i n : Int} (hn : 1 ≤ n) : idxV 1 i n - idxV 1 (i + 1) n ≤ 1 ∧ idxV 1 (i + 1) n - idxV 1 i n ≤ 1 ∧ 0 ≤ idxV 1 i n ∧ idxV 1 i n < n := by
  rw [idx_clamp hn, idx_clamp hn]
  by_cases a : i < 0
  · rw [if_pos a]
    by_cases b : i + 1 < 0
    · rw [if_pos b]; omega
    · rw [if_neg b, if_pos (by omega)]; omega
  · rw [if_neg a, if_neg (show ¬ i + 1 < 0 by omega)]
    by_cases b : i + 1 < n
    · rw [if_pos b, if_pos (by omega)]; omega
    · rw [if_neg b]
      by_cases c : i < n
      · rw [if_pos c]; omega
      · rw [if_neg c]; omega

end Go.Proofs.Ytghkbfijajpefaa
