/-
Contracts of package border: whether a border is one, and each mode. No statement is proved here.
-/
import Derived.Test.YtbogckpnajjlmaaQuo0
namespace Go.Proofs.Ytbogckpnajjlmaa
open Go.RowKit

theorem emod_of_fdiv {i n : Int} (hn : 1 ≤ n) : i - Int.fdiv i n * n = i % n := by
  rw [Int.fdiv_eq_ediv_of_nonneg _ (by omega)]
  have := Int.emod_add_mul_ediv i n
  rw [Int.mul_comm] at this
  omega
theorem none_any (n i : Int) (w : World) : Calls Try.prog 97 #[.int .i64 n, .int .i64 i] w (Pair w 0 false) := by
  go_enter Try.func97, Try.ntmps97
  go_wp2_with fail
  refine bodyPost_ret (v := .tuple #[.int .i64 0, .bool false]) (by simp [results, Try.results97, go_sem]) rfl ⟨rfl, rfl⟩
theorem clamp_any (n i : Int) (hn : 1 ≤ n ∧ n ≤ 9223372036854775807) (w : World) : Calls Try.prog 98 #[.int .i64 n, .int .i64 i] w (Pair w (if i < 0 then 0 else n - 1) true) := by
  obtain ⟨h1, h2⟩ := hn
  by_cases h : i < 0
  · rw [if_pos h]
    go_enter Try.func98, Try.ntmps98
    go_wp2_with fail
    refine bodyPost_ret (v := .tuple #[.int .i64 0, .bool true]) (by simp [results, Try.results98, go_sem]) rfl ⟨rfl, rfl⟩
  · rw [if_neg h]
    go_enter Try.func98, Try.ntmps98
    go_wp2_with fail
    refine bodyPost_ret (v := .tuple #[.int .i64 (n - 1), .bool true]) (by simp [results, Try.results98, go_sem]) rfl ⟨rfl, rfl⟩
theorem wrap_any (n i : Int) (hn : 1 ≤ n ∧ n ≤ 9223372036854775807) (w : World) : Calls Try.prog 99 #[.int .i64 n, .int .i64 i] w (Pair w (i % n) true) := by
  have HM := hide (fun w => QMod_any i n w (by omega) (by omega))
  rw [emod_of_fdiv hn.1] at HM
  clear hn
  obtain ⟨z, hz⟩ : ∃ z, i % n = z := ⟨_, rfl⟩
  rw [hz] at HM ⊢
  clear hz
  go_enter Try.func99, Try.ntmps99
  go_wp2_with fail
  refine (HM.out _).mono ?_
  rintro e w1 ⟨rfl, rfl⟩
  go_wp2_with fail
  refine bodyPost_ret (v := .tuple #[.int .i64 z, .bool true]) (by simp [results, Try.results99, go_sem]) rfl ⟨rfl, rfl⟩

theorem tmod2 (q : Int) : q.tmod 2 = 0 ↔ q % 2 = 0 := by
  have h1 := Int.mul_tdiv_add_tmod q 2
  have h2 := tmod_small (a := q) (b := 2) (by decide)
  generalize q.tdiv 2 = t at *
  generalize q.tmod 2 = r at *
  omega
/-- read there and back -/
def mirV (i n : Int) : Int := if (i / n) % 2 = 0 then i % n else n - 1 - i % n
theorem mirror_any (n i : Int) (hn : 1 ≤ n ∧ n ≤ 9223372036854775807) (hi : -9223372036854775808 ≤ i ∧ i ≤ 9223372036854775807) (w : World) : Calls Try.prog 100 #[.int .i64 n, .int .i64 i] w (Pair w (mirV i n) true) := by
  have HF := hide (fun w => QFloor_any i n w hi (by omega) (by omega) (by omega))
  rw [Int.fdiv_eq_ediv_of_nonneg _ (by omega)] at HF
  have HW := hide (fun w => wrap_any n i hn w)
  have hr1 := Int.emod_nonneg i (show n ≠ 0 by omega)
  have hr2 := Int.emod_lt_of_pos i (show 0 < n by omega)
  obtain ⟨v, hv⟩ : ∃ v, mirV i n = v := ⟨_, rfl⟩
  rw [hv]
  unfold mirV at hv
  obtain ⟨z, hz⟩ : ∃ z, i % n = z := ⟨_, rfl⟩
  obtain ⟨q, hq⟩ : ∃ q, i / n = q := ⟨_, rfl⟩
  rw [hz] at HW hr1 hr2 hv
  rw [hq] at HF hv
  obtain ⟨h1, h2⟩ := hn
  clear hz hq hi
  by_cases h : q % 2 = 0
  · have ht : (q.tmod 2 != 0) = false := by rw [bne_eq_false_iff_eq, tmod2]; exact h
    rw [if_pos h] at hv
    subst hv
    clear h
    go_enter Try.func100, Try.ntmps100
    go_wp2_with fail
    refine (HF.out _).mono ?_
    rintro e w1 ⟨rfl, rfl⟩
    go_wp2_with fail
    refine (HW.out _).mono ?_
    rintro e w1 ⟨rfl, rfl⟩
    go_wp2_with fail
    refine bodyPost_ret (v := .tuple #[.int .i64 z, .bool true]) (by simp [results, Try.results100, go_sem]) rfl ⟨rfl, rfl⟩
  · have ht : (q.tmod 2 != 0) = true := by rw [bne_iff_ne, Ne, tmod2]; exact h
    rw [if_neg h] at hv
    subst hv
    clear h
    go_enter Try.func100, Try.ntmps100
    go_wp2_with fail
    refine (HF.out _).mono ?_
    rintro e w1 ⟨rfl, rfl⟩
    go_wp2_with fail
    refine (HW.out _).mono ?_
    rintro e w1 ⟨rfl, rfl⟩
    go_wp2_with fail
    refine bodyPost_ret (v := .tuple #[.int .i64 (n - 1 - z), .bool true]) (by simp [results, Try.results100, go_sem]) rfl ⟨rfl, rfl⟩

end Go.Proofs.Ytbogckpnajjlmaa
