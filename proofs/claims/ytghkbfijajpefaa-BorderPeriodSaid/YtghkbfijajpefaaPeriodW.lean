/-
The law BorderPeriod: its walk. No statement is proved here.
-/
import Derived.Test.YtghkbfijajpefaaPeriod
namespace Go.Proofs.Ytghkbfijajpefaa
open Go.RowKit

/-- a box of a place in a row, in a world that has grown -/
def PerK (w : World) (m i n t : Int) (w' : World) : Prop := Bx w' w.heap.size [.int .i64 m, .int .i32 i, .int .i64 n, .int .i16 t] ∧ Below w.heap.size w w'

set_option maxHeartbeats 2000000 in
theorem BorderPeriod_out (m i n t : Int) (h : n < 1 ∨ 2147483648 < n) (hn : -9223372036854775808 ≤ n ∧ n ≤ 9223372036854775807) (w : World) :
    Calls Try.prog 4 #[.agg #[.int .i64 m, .int .i32 i, .int .i64 n, .int .i16 t]] w (Says w (.bool true)) := by
  have H := hide (below_alloc w)
  have HP := hide (fun w => Period_any m n w)
  rw [show perV m n = 0 from if_neg (by omega)] at HP
  have HA := hide alive8_any
  by_cases h1 : n < 1
  · clear h
    go_enter Try.func4, Try.ntmps4
    go_wp2_with fail
    go_quiet (fail)
    go_wp2_with fail
    refine (HP.out _).mono ?_
    rintro e w1 ⟨rfl, rfl⟩
    go_wp2_with fail
    all_goals
      refine (HA.out _).mono ?_
      rintro e w2 ⟨rfl, hb⟩
      have HB := hide ((bdrewN (H.out _) nq).trans (hb.mono (by simp)))
      clear hb
      go_wp2_with fail
      go_ret
      exact ⟨rfl, HB.out⟩
  · have h2 : 2147483648 < n := by omega
    clear h
    go_enter Try.func4, Try.ntmps4
    go_wp2_with fail
    go_quiet (fail)
    go_wp2_with fail
    refine (HP.out _).mono ?_
    rintro e w1 ⟨rfl, rfl⟩
    go_wp2_with fail
    all_goals
      refine (HA.out _).mono ?_
      rintro e w2 ⟨rfl, hb⟩
      have HB := hide ((bdrewN (H.out _) nq).trans (hb.mono (by simp)))
      clear hb
      go_wp2_with fail
      go_ret
      exact ⟨rfl, HB.out⟩

/-- products with few times -/
theorem times_in {t n : Int} (ht : -32768 ≤ t ∧ t ≤ 32767) (hn : 0 ≤ n ∧ n ≤ 4294967296) : -140737488355328 ≤ t * n ∧ t * n ≤ 140737488355328 := by
  have h1 : t * n ≤ 32768 * n := Int.mul_le_mul_of_nonneg_right (by omega) hn.1
  have h2 : (-32768) * n ≤ t * n := Int.mul_le_mul_of_nonneg_right (by omega) hn.1
  omega
set_option maxHeartbeats 2000000 in
theorem BorderPeriod_wrap (i n t : Int) (hi : -2147483648 ≤ i ∧ i ≤ 2147483647) (ht : -32768 ≤ t ∧ t ≤ 32767) (hn : 1 ≤ n ∧ n ≤ 2147483648) (w : World) : Calls Try.prog 4 #[.agg #[.int .i64 2, .int .i32 i, .int .i64 n, .int .i16 t]] w (Says w (.bool true)) := by
  obtain ⟨i1, i2⟩ := hi
  obtain ⟨n1, n2⟩ := hn
  have H := hide (below_alloc w)
  have HP := hide (fun w => Period_any 2 n w)
  rw [show perV 2 n = n by simp [perV]; omega] at HP
  have HA := hide alive8_any
  obtain ⟨p1, p2⟩ := times_in (t := t) (n := n) ht (by omega)
  have H1 := hide (fun w => Index_any 2 i n (by omega) (by omega) w)
  have H2 := hide (fun w => Index_any 2 (i + t * n) n (by omega) (by omega) w)
  have H3 := hide (fun w => Index_any 2 (i + 1) n (by omega) (by omega) w)
  rw [idxB_on n1 (by omega)] at H1 H2 H3
  rw [idx_wrap n1] at H1 H2
  rw [wrap_per] at H2
  obtain ⟨x, hx⟩ : ∃ x, i % n = x := ⟨_, rfl⟩
  rw [hx] at H1 H2
  obtain ⟨t1, t2⟩ := ht
  clear hx
  go_enter Try.func4, Try.ntmps4
  go_wp2_with fail
  go_quiet (fail)
  go_wp2_with fail
  refine (HP.out _).mono ?_
  rintro e w1 ⟨rfl, rfl⟩
  go_wp2_with fail
  refine (H1.out _).mono ?_
  rintro e w2 ⟨rfl, hb⟩
  have B1 := hide ((bdrewN (H.out _) nq).trans (hb.mono (by simp)))
  clear hb
  go_wp2_with fail
  refine (H2.out _).mono ?_
  rintro e w3 ⟨rfl, hb⟩
  have B2 := hide (B1.out.trans (hb.mono B1.out.size))
  clear hb
  go_wp2_with fail
  refine (H3.out _).mono ?_
  rintro e w4 ⟨rfl, hb⟩
  have B3 := hide (B2.out.trans (hb.mono B2.out.size))
  clear hb
  go_wp2_with fail
  refine (HA.out _).mono ?_
  rintro e w5 ⟨rfl, hb⟩
  have B4 := hide (B3.out.trans (hb.mono B3.out.size))
  clear hb
  go_wp2_with fail
  go_ret
  exact ⟨rfl, B4.out⟩

set_option maxHeartbeats 2000000 in
theorem BorderPeriod_mir (i n t : Int) (hi : -2147483648 ≤ i ∧ i ≤ 2147483647) (ht : -32768 ≤ t ∧ t ≤ 32767) (hn : 1 ≤ n ∧ n ≤ 2147483648) (w : World) : Calls Try.prog 4 #[.agg #[.int .i64 3, .int .i32 i, .int .i64 n, .int .i16 t]] w (Says w (.bool true)) := by
  obtain ⟨i1, i2⟩ := hi
  obtain ⟨n1, n2⟩ := hn
  have H := hide (below_alloc w)
  have HP := hide (fun w => Period_any 3 n w)
  rw [show perV 3 n = 2 * n by simp [perV]; omega] at HP
  have HA := hide alive8_any
  obtain ⟨p1, p2⟩ := times_in (t := t) (n := 2 * n) ht (by omega)
  have H1 := hide (fun w => Index_any 3 i n (by omega) (by omega) w)
  have H2 := hide (fun w => Index_any 3 (i + t * (2 * n)) n (by omega) (by omega) w)
  have H3 := hide (fun w => Index_any 3 (i + 1) n (by omega) (by omega) w)
  rw [idxB_on n1 (by omega)] at H1 H2 H3
  rw [idx_mir n1] at H1 H2 H3
  rw [mir_per n1] at H2
  obtain ⟨s1, s2, s3, s4⟩ := mir_step (i := i) n1
  obtain ⟨_, _, s5, s6⟩ := mir_step (i := i + 1) n1
  obtain ⟨x, hx⟩ : ∃ x, mirV i n = x := ⟨_, rfl⟩
  obtain ⟨y, hy⟩ : ∃ y, mirV (i + 1) n = y := ⟨_, rfl⟩
  rw [hx] at H1 H2 s1 s2 s3 s4
  rw [hy] at H3 s1 s2 s5 s6
  obtain ⟨t1, t2⟩ := ht
  clear hx hy
  go_enter Try.func4, Try.ntmps4
  go_wp2_with fail
  go_quiet (fail)
  go_wp2_with fail
  refine (HP.out _).mono ?_
  rintro e w1 ⟨rfl, rfl⟩
  go_wp2_with fail
  refine (H1.out _).mono ?_
  rintro e w2 ⟨rfl, hb⟩
  have B1 := hide ((bdrewN (H.out _) nq).trans (hb.mono (by simp)))
  clear hb
  go_wp2_with fail
  refine (H2.out _).mono ?_
  rintro e w3 ⟨rfl, hb⟩
  have B2 := hide (B1.out.trans (hb.mono B1.out.size))
  clear hb
  go_wp2_with fail
  refine (H3.out _).mono ?_
  rintro e w4 ⟨rfl, hb⟩
  have B3 := hide (B2.out.trans (hb.mono B2.out.size))
  clear hb
  go_wp2_with fail
  refine (HA.out _).mono ?_
  rintro e w5 ⟨rfl, hb⟩
  have B4 := hide (B3.out.trans (hb.mono B3.out.size))
  clear hb
  go_wp2_with fail
  go_ret
  exact ⟨rfl, B4.out⟩

set_option maxHeartbeats 2000000 in
theorem BorderPeriod_clamp (i n t : Int) (hi : -2147483648 ≤ i ∧ i ≤ 2147483647) (ht : -32768 ≤ t ∧ t ≤ 32767) (hn : 1 ≤ n ∧ n ≤ 2147483648) (w : World) : Calls Try.prog 4 #[.agg #[.int .i64 1, .int .i32 i, .int .i64 n, .int .i16 t]] w (Says w (.bool true)) := by
  obtain ⟨i1, i2⟩ := hi
  obtain ⟨n1, n2⟩ := hn
  have H := hide (below_alloc w)
  have HP := hide (fun w => Period_any 1 n w)
  rw [show perV 1 n = 0 by simp [perV]] at HP
  have HA := hide alive8_any
  have H1 := hide (fun w => Index_any 1 i n (by omega) (by omega) w)
  have H2 := H1
  have H3 := hide (fun w => Index_any 1 (i + 1) n (by omega) (by omega) w)
  rw [idxB_on n1 (by omega)] at H1 H2 H3
  obtain ⟨s1, s2, s3, s4⟩ := clamp_step (i := i) n1
  obtain ⟨_, _, s5, s6⟩ := clamp_step (i := i + 1) n1
  obtain ⟨x, hx⟩ : ∃ x, idxV 1 i n = x := ⟨_, rfl⟩
  obtain ⟨y, hy⟩ : ∃ y, idxV 1 (i + 1) n = y := ⟨_, rfl⟩
  rw [hx] at H1 H2 s1 s2 s3 s4
  rw [hy] at H3 s1 s2 s5 s6
  obtain ⟨t1, t2⟩ := ht
  clear hx hy
  go_enter Try.func4, Try.ntmps4
  go_wp2_with fail
  go_quiet (fail)
  go_wp2_with fail
  refine (HP.out _).mono ?_
  rintro e w1 ⟨rfl, rfl⟩
  go_wp2_with fail
  refine (H1.out _).mono ?_
  rintro e w2 ⟨rfl, hb⟩
  have B1 := hide ((bdrewN (H.out _) nq).trans (hb.mono (by simp)))
  clear hb
  go_wp2_with fail
  refine (H2.out _).mono ?_
  rintro e w3 ⟨rfl, hb⟩
  have B2 := hide (B1.out.trans (hb.mono B1.out.size))
  clear hb
  go_wp2_with fail
  refine (H3.out _).mono ?_
  rintro e w4 ⟨rfl, hb⟩
  have B3 := hide (B2.out.trans (hb.mono B2.out.size))
  clear hb
  go_wp2_with fail
  refine (HA.out _).mono ?_
  rintro e w5 ⟨rfl, hb⟩
  have B4 := hide (B3.out.trans (hb.mono B3.out.size))
  clear hb
  go_wp2_with fail
  go_ret
  exact ⟨rfl, B4.out⟩

set_option maxHeartbeats 2000000 in
theorem BorderPeriod_else (m i n t : Int) (hm : m ≠ 1 ∧ m ≠ 2 ∧ m ≠ 3) (hi : -2147483648 ≤ i ∧ i ≤ 2147483647) (ht : -32768 ≤ t ∧ t ≤ 32767) (hn : 1 ≤ n ∧ n ≤ 2147483648) (w : World) : Calls Try.prog 4 #[.agg #[.int .i64 m, .int .i32 i, .int .i64 n, .int .i16 t]] w (Says w (.bool true)) := by
  obtain ⟨i1, i2⟩ := hi
  obtain ⟨n1, n2⟩ := hn
  obtain ⟨m1, m2, m3⟩ := hm
  have H := hide (below_alloc w)
  have HP := hide (fun w => Period_any m n w)
  rw [show perV m n = 0 by simp [perV, m2, m3]] at HP
  have b1 : (m == 1) = false := by simpa using m1
  have b2 : (m == 2) = false := by simpa using m2
  have b3 : (m == 3) = false := by simpa using m3
  clear m1 m2 m3
  have HA := hide alive8_any
  have H1 := hide (fun w => Index_any m i n (by omega) (by omega) w)
  have H2 := H1
  have H3 := hide (fun w => Index_any m (i + 1) n (by omega) (by omega) w)
  obtain ⟨t1, t2⟩ := ht
  go_enter Try.func4, Try.ntmps4
  go_wp2_with fail
  go_quiet (fail)
  go_wp2_with fail
  refine (HP.out _).mono ?_
  rintro e w1 ⟨rfl, rfl⟩
  go_wp2_with fail
  refine (H1.out _).mono ?_
  rintro e w2 ⟨rfl, hb⟩
  have B1 := hide ((bdrewN (H.out _) nq).trans (hb.mono (by simp)))
  clear hb
  go_wp2_with fail
  refine (H2.out _).mono ?_
  rintro e w3 ⟨rfl, hb⟩
  have B2 := hide (B1.out.trans (hb.mono B1.out.size))
  clear hb
  go_wp2_with fail
  refine (H3.out _).mono ?_
  rintro e w4 ⟨rfl, hb⟩
  have B3 := hide (B2.out.trans (hb.mono B2.out.size))
  clear hb
  go_wp2_with fail
  refine (HA.out _).mono ?_
  rintro e w5 ⟨rfl, hb⟩
  have B4 := hide (B3.out.trans (hb.mono B3.out.size))
  clear hb
  go_wp2_with fail
  go_ret
  exact ⟨rfl, B4.out⟩

theorem BorderPeriod_walk (m i n t : Int) (hi : -2147483648 ≤ i ∧ i ≤ 2147483647) (hn : -9223372036854775808 ≤ n ∧ n ≤ 9223372036854775807) (ht : -32768 ≤ t ∧ t ≤ 32767) (w : World) : Calls Try.prog 4 #[.agg #[.int .i64 m, .int .i32 i, .int .i64 n, .int .i16 t]] w (Says w (.bool true)) := by
  by_cases h : n < 1 ∨ 2147483648 < n
  · exact BorderPeriod_out m i n t h hn w
  · by_cases h2 : m = 2
    · subst h2; exact BorderPeriod_wrap i n t hi ht (by omega) w
    · by_cases h3 : m = 3
      · subst h3; exact BorderPeriod_mir i n t hi ht (by omega) w
      · by_cases h1 : m = 1
        · subst h1; exact BorderPeriod_clamp i n t hi ht (by omega) w
        · exact BorderPeriod_else m i n t ⟨h1, h2, h3⟩ hi ht (by omega) w

end Go.Proofs.Ytghkbfijajpefaa
