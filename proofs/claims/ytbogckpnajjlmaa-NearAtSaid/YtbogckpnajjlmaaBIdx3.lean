/-
Contract of the reference of layer 8: which of so many things stands at a place. No statement is proved here.
-/
import Derived.Test.YtbogckpnajjlmaaBIdx2
import Derived.Test.YtbogckpnajjlmaaBord2
namespace Go.Proofs.Ytbogckpnajjlmaa
open Go.RowKit

theorem mir_twice {i n : Int} (hn : 1 ≤ n) : mirV i n = if i % (n + n) < n then i % (n + n) else n - 1 - (i % (n + n) - n) := by
  have h1 := Int.emod_nonneg i (show n ≠ 0 by omega)
  have h2 := Int.emod_lt_of_pos i (show 0 < n by omega)
  have h3 := Int.emod_add_mul_ediv i n
  unfold mirV
  obtain ⟨q, hq⟩ : ∃ q, i / n = q := ⟨_, rfl⟩
  obtain ⟨r, hr⟩ : ∃ r, i % n = r := ⟨_, rfl⟩
  rw [hq, hr] at h3
  rw [hr] at h1 h2
  rw [hq, hr]
  by_cases p : q % 2 = 0
  · obtain ⟨k, rfl⟩ : ∃ k, q = 2 * k := ⟨q / 2, by omega⟩
    have e : i = r + k * (n + n) := by rw [← h3, Int.mul_add]; rw [Int.mul_comm n (2 * k), Int.mul_assoc]; omega
    have e1 : i % (n + n) = r := by rw [e, Int.add_mul_emod_self_right, Int.emod_eq_of_lt (by omega) (by omega)]
    rw [e1, if_pos p, if_pos h2]
  · obtain ⟨k, rfl⟩ : ∃ k, q = 2 * k + 1 := ⟨q / 2, by omega⟩
    have e : i = (n + r) + k * (n + n) := by rw [← h3, Int.mul_add n, Int.mul_comm n (2 * k), Int.mul_assoc, Int.mul_add k]; omega
    have e1 : i % (n + n) = n + r := by rw [e, Int.add_mul_emod_self_right, Int.emod_eq_of_lt (by omega) (by omega)]
    rw [e1, if_neg p, if_neg (by omega)]; omega

set_option maxHeartbeats 1000000 in
theorem RIndex_none (m i n : Int) (h : n < 1 ∨ ¬ (0 ≤ m ∧ m ≤ 3)) (w : World) : Calls Try.prog 53 #[.int .i64 m, .int .i64 i, .int .i64 n] w (Told2 w 0 false) := by
  by_cases h1 : m < 0
  · clear h
    go_enter Try.func53, Try.ntmps53
    go_wp2_with fail
    refine bodyPost_ret (v := .tuple #[.int .i64 0, .bool false]) (by simp [results, Try.results53, go_sem]) rfl ⟨rfl, Below.refl _ _⟩
  · by_cases h2 : 3 < m
    · clear h
      go_enter Try.func53, Try.ntmps53
      go_wp2_with fail
      refine bodyPost_ret (v := .tuple #[.int .i64 0, .bool false]) (by simp [results, Try.results53, go_sem]) rfl ⟨rfl, Below.refl _ _⟩
    · have h3 : n < 1 := by omega
      clear h
      go_enter Try.func53, Try.ntmps53
      go_wp2_with fail
      refine bodyPost_ret (v := .tuple #[.int .i64 0, .bool false]) (by simp [results, Try.results53, go_sem]) rfl ⟨rfl, Below.refl _ _⟩

theorem RIndex_in (m i n : Int) (hm : 0 ≤ m ∧ m ≤ 3) (h3 : 0 ≤ i) (h4 : i < n) (hi : i ≤ 9223372036854775807) (w : World) : Calls Try.prog 53 #[.int .i64 m, .int .i64 i, .int .i64 n] w (Told2 w i true) := by
  obtain ⟨m1, m2⟩ := hm
  go_enter Try.func53, Try.ntmps53
  go_wp2_with fail
  refine bodyPost_ret (v := .tuple #[.int .i64 i, .bool true]) (by simp [results, Try.results53, go_sem]) rfl ⟨rfl, Below.refl _ _⟩

theorem RIndex_const (i n : Int) (hn : 1 ≤ n) (hout : ¬ (0 ≤ i ∧ i < n)) (w : World) : Calls Try.prog 53 #[.int .i64 0, .int .i64 i, .int .i64 n] w (Told2 w 0 false) := by
  by_cases h3 : 0 ≤ i
  · have h4 : ¬ i < n := fun q => hout ⟨h3, q⟩
    clear hout
    go_enter Try.func53, Try.ntmps53
    go_wp2_with fail
    refine bodyPost_ret (v := .tuple #[.int .i64 0, .bool false]) (by simp [results, Try.results53, go_sem]) rfl ⟨rfl, Below.refl _ _⟩
  · clear hout
    go_enter Try.func53, Try.ntmps53
    go_wp2_with fail
    refine bodyPost_ret (v := .tuple #[.int .i64 0, .bool false]) (by simp [results, Try.results53, go_sem]) rfl ⟨rfl, Below.refl _ _⟩

theorem RIndex_clamp (i n : Int) (hn : 1 ≤ n ∧ n ≤ 9223372036854775807) (hout : ¬ (0 ≤ i ∧ i < n)) (w : World) : Calls Try.prog 53 #[.int .i64 1, .int .i64 i, .int .i64 n] w (Told2 w (if i < 0 then 0 else n - 1) true) := by
  obtain ⟨h1, h2⟩ := hn
  by_cases h3 : i < 0
  · rw [if_pos h3]
    clear hout
    go_enter Try.func53, Try.ntmps53
    go_wp2_with fail
    refine bodyPost_ret (v := .tuple #[.int .i64 0, .bool true]) (by simp [results, Try.results53, go_sem]) rfl ⟨rfl, Below.refl _ _⟩
  · rw [if_neg h3]
    have h4 : ¬ i < n := fun q => hout ⟨by omega, q⟩
    clear hout
    go_enter Try.func53, Try.ntmps53
    go_wp2_with fail
    refine bodyPost_ret (v := .tuple #[.int .i64 (n - 1), .bool true]) (by simp [results, Try.results53, go_sem]) rfl ⟨rfl, Below.refl _ _⟩

theorem RIndex_wrap (i n : Int) (hi : -9223372036854775808 ≤ i ∧ i ≤ 9223372036854775807) (hn : 1 ≤ n ∧ n ≤ 9223372036854775807) (hout : ¬ (0 ≤ i ∧ i < n)) (w : World) : Calls Try.prog 53 #[.int .i64 2, .int .i64 i, .int .i64 n] w (Told2 w (i % n) true) := by
  have HL := hide (fun w => left_any i n hi hn w)
  obtain ⟨h1, h2⟩ := hn
  obtain ⟨x, hx⟩ : ∃ x, i % n = x := ⟨_, rfl⟩
  rw [hx] at HL ⊢
  clear hx hi
  by_cases h3 : 0 ≤ i
  all_goals
    first
      | (have h4 : ¬ i < n := fun q => hout ⟨h3, q⟩)
      | skip
    clear hout
    go_enter Try.func53, Try.ntmps53
    go_wp2_with fail
    refine (HL.out _).mono ?_
    rintro e w1 ⟨rfl, hb⟩
    have HB := hide hb
    clear hb
    go_wp2_with fail
    refine bodyPost_ret (v := .tuple #[.int .i64 x, .bool true]) (by simp [results, Try.results53, go_sem]) rfl ⟨rfl, HB.out⟩

set_option maxHeartbeats 2000000 in
theorem RIndex_low (i n : Int) (hi : -9223372036854775808 ≤ i ∧ i ≤ 9223372036854775807) (hn : 1 ≤ n ∧ n ≤ 9223372036854775807) (hout : ¬ (0 ≤ i ∧ i < n)) (hlt : i % (n + n) < n) (w : World) : Calls Try.prog 53 #[.int .i64 3, .int .i64 i, .int .i64 n] w (Told2 w (i % (n + n)) true) := by
  have HT := hide (fun w => twice_any i n hi hn w)
  have HN := hide (fun w => Of_any n w (by omega) hn.2)
  have T1 := Int.emod_nonneg i (show n + n ≠ 0 by omega)
  have T2 := Int.emod_lt_of_pos i (show 0 < n + n by omega)
  obtain ⟨t, ht⟩ : ∃ t, i % (n + n) = t := ⟨_, rfl⟩
  rw [ht] at HT T1 T2 hlt ⊢
  clear ht
  obtain ⟨h1, h2⟩ := hn
  obtain ⟨c, hc⟩ : ∃ c, cmpZ t n = c := ⟨_, rfl⟩
  have c0 : decide (c < 0) = true := by rw [← hc, cmpZ_lt hlt]; decide
  have HC := Lib.hid hc
  have HT1 := hide (show -9223372036854775808 ≤ t ∧ t ≤ 9223372036854775807 by omega)
  clear hc hlt hi
  by_cases h3 : 0 ≤ i
  all_goals
    first
      | (have h4 : ¬ i < n := fun q => hout ⟨h3, q⟩)
      | skip
    clear hout
    go_enter Try.func53, Try.ntmps53
    go_wp2_with fail
    refine (HT.out _).mono ?_
    rintro e w1 ⟨s1, A1, n1, c1, rfl, hB1, hb1⟩
    have X1 := hide (Bx.at (w := w1) (g := w1.heap.size) [.bool s1, .slice A1 n1 c1] 98 rfl)
    have V1 := hide (hB1.alloc' (.cells #[.bool s1, .slice A1 n1 c1] 98))
    have L1 := hide (hb1.alloc hb1.size (.cells #[.bool s1, .slice A1 n1 c1] 98))
    clear hB1 hb1
    go_wp2_with fail
    generalize w1.alloc (.cells #[.bool s1, .slice A1 n1 c1] 98) = W at X1 V1 L1 ⊢
    have KC := hide (fun w' (h : Bel W w') => (⟨(X1.out.below h).two.2.1, (X1.out.below h).two.2.2.1⟩ : w'.cell? ⟨w1.heap.size, 0, none⟩ = some (.bool s1) ∧ w'.cell? ⟨w1.heap.size, 1, none⟩ = some (.slice A1 n1 c1)))
    have KA := hide (fun w' (h : Bel W w') => V1.out.below h)
    clear X1 V1
    go_region_held3 (fun w' => w'.cell? ⟨w1.heap.size, 0, none⟩ = some (.bool s1) ∧ w'.cell? ⟨w1.heap.size, 1, none⟩ = some (.slice A1 n1 c1))
      ((refine KC.out _ ?_; repeat (first | assumption | exact Bel.refl _ | refine Bel.drew ?_)))
      (first
        | (go_at_call 81; refine (HN.out _).mono ?_; rintro e w2 ⟨s2, A2, n2, c2, rfl, hB, hb⟩; have k2 : Bel W w2 := Bel.trans (by repeat (first | assumption | exact Bel.refl _ | refine Bel.drew ?_)) hb; have B2 := hide hB; clear hB hb)
        | (go_at_call 80; refine (Cmp_any 20 (by omega) _ _ _ _ _ _ _ _ t n _ (KA.out _ (by repeat (first | assumption | exact Bel.refl _ | refine Bel.drew ?_))) (B2.out.more (by omega))).mono ?_; rw [HC.out]; rintro e w3 ⟨rfl, hb⟩; have k3 : Bel W w3 := Bel.trans (by repeat (first | assumption | exact Bel.refl _ | refine Bel.drew ?_)) hb; clear hb))
    obtain ⟨a0, a1⟩ := KC.out _ k3
    go_wp2_with fail
    refine (Small_any 20 _ _ _ _ t _ (KA.out _ (by repeat (first | assumption | exact Bel.refl _ | refine Bel.drew ?_))) HT1.out.1 HT1.out.2).mono ?_
    rintro e w4 ⟨rfl, hb⟩
    have k4 := hide (Bel.trans k3 hb)
    clear hb k3
    go_wp2_with fail
    refine bodyPost_ret (v := .tuple #[.int .i64 t, .bool true]) (by simp [results, Try.results53, go_sem]) rfl ⟨rfl, L1.out.trans (Below.mono k4.out L1.out.size)⟩

set_option maxHeartbeats 2000000 in
theorem RIndex_high (i n : Int) (hi : -9223372036854775808 ≤ i ∧ i ≤ 9223372036854775807) (hn : 1 ≤ n ∧ n ≤ 9223372036854775807) (hout : ¬ (0 ≤ i ∧ i < n)) (hlt : ¬ i % (n + n) < n) (w : World) : Calls Try.prog 53 #[.int .i64 3, .int .i64 i, .int .i64 n] w (Told2 w (n - 1 - (i % (n + n) - n)) true) := by
  have HT := hide (fun w => twice_any i n hi hn w)
  have HN := hide (fun w => Of_any n w (by omega) hn.2)
  have T1 := Int.emod_nonneg i (show n + n ≠ 0 by omega)
  have T2 := Int.emod_lt_of_pos i (show 0 < n + n by omega)
  obtain ⟨t, ht⟩ : ∃ t, i % (n + n) = t := ⟨_, rfl⟩
  rw [ht] at HT T1 T2 hlt ⊢
  clear ht
  obtain ⟨h1, h2⟩ := hn
  obtain ⟨c, hc⟩ : ∃ c, cmpZ t n = c := ⟨_, rfl⟩
  have c0 : decide (c < 0) = false := by rw [← hc, decide_eq_false_iff_not]; unfold cmpZ; split <;> (try split) <;> omega
  have b1 : 0 ≤ t - n := by omega
  have b2 : t - n < n := by omega
  have e1 : IntKind.i64.wrap (n - 1) = n - 1 := IntWalk.i64_in _ (by omega)
  have e2 : IntKind.i64.wrap (n - 1 - (t - n)) = n - 1 - (t - n) := IntWalk.i64_in _ (by omega)
  have HC := Lib.hid hc
  have HT1 := hide (show -9223372036854775808 ≤ (t - n) ∧ (t - n) ≤ 9223372036854775807 by omega)
  clear hc hlt hi
  by_cases h3 : 0 ≤ i
  all_goals
    first
      | (have h4 : ¬ i < n := fun q => hout ⟨h3, q⟩)
      | skip
    clear hout
    go_enter Try.func53, Try.ntmps53
    go_wp2_with fail
    refine (HT.out _).mono ?_
    rintro e w1 ⟨s1, A1, n1, c1, rfl, hB1, hb1⟩
    have X1 := hide (Bx.at (w := w1) (g := w1.heap.size) [.bool s1, .slice A1 n1 c1] 98 rfl)
    have V1 := hide (hB1.alloc' (.cells #[.bool s1, .slice A1 n1 c1] 98))
    have L1 := hide (hb1.alloc hb1.size (.cells #[.bool s1, .slice A1 n1 c1] 98))
    clear hB1 hb1
    go_wp2_with fail
    generalize w1.alloc (.cells #[.bool s1, .slice A1 n1 c1] 98) = W at X1 V1 L1 ⊢
    have KC := hide (fun w' (h : Bel W w') => (⟨(X1.out.below h).two.2.1, (X1.out.below h).two.2.2.1⟩ : w'.cell? ⟨w1.heap.size, 0, none⟩ = some (.bool s1) ∧ w'.cell? ⟨w1.heap.size, 1, none⟩ = some (.slice A1 n1 c1)))
    have KA := hide (fun w' (h : Bel W w') => V1.out.below h)
    clear X1 V1
    go_region_held3 (fun w' => w'.cell? ⟨w1.heap.size, 0, none⟩ = some (.bool s1) ∧ w'.cell? ⟨w1.heap.size, 1, none⟩ = some (.slice A1 n1 c1))
      ((refine KC.out _ ?_; repeat (first | assumption | exact Bel.refl _ | refine Bel.drew ?_)))
      (first
        | (go_at_call 81; refine (HN.out _).mono ?_; rintro e w2 ⟨s2, A2, n2, c2, rfl, hB, hb⟩; have k2 : Bel W w2 := Bel.trans (by repeat (first | assumption | exact Bel.refl _ | refine Bel.drew ?_)) hb; have B2 := hide hB; clear hB hb)
        | (go_at_call 80; refine (Cmp_any 20 (by omega) _ _ _ _ _ _ _ _ t n _ (KA.out _ (by repeat (first | assumption | exact Bel.refl _ | refine Bel.drew ?_))) (B2.out.more (by omega))).mono ?_; rw [HC.out]; rintro e w3 ⟨rfl, hb⟩; have k3 : Bel W w3 := Bel.trans (by repeat (first | assumption | exact Bel.refl _ | refine Bel.drew ?_)) hb; clear hb))
    go_wp2_with fail
    go_region_held3 (fun w' => w'.cell? ⟨w1.heap.size, 0, none⟩ = some (.bool s1) ∧ w'.cell? ⟨w1.heap.size, 1, none⟩ = some (.slice A1 n1 c1))
      ((refine KC.out _ ?_; repeat (first | assumption | exact Bel.refl _ | refine Bel.drew ?_)))
      (first
        | (go_at_call 81; refine (HN.out _).mono ?_; rintro e w4 ⟨s4, A4, n4, c4, rfl, hB, hb⟩; have k4 : Bel W w4 := Bel.trans (by repeat (first | assumption | exact Bel.refl _ | refine Bel.drew ?_)) hb; have B4 := hide hB; clear hB hb)
        | (go_at_call 83; refine (Sub_any 20 (by omega) _ _ _ _ _ _ _ _ t n _ (KA.out _ (by repeat (first | assumption | exact Bel.refl _ | refine Bel.drew ?_))) (B4.out.more (by omega))).mono ?_; rintro e w5 ⟨s5, A5, n5, c5, rfl, hB, hb⟩; have k5 : Bel W w5 := Bel.trans (by repeat (first | assumption | exact Bel.refl _ | refine Bel.drew ?_)) hb; have B5 := hide hB; clear hB hb)
        | (go_at_call 82; refine (Small_any 21 _ _ _ _ (t - n) _ B5.out HT1.out.1 HT1.out.2).mono ?_; rintro e w6 ⟨rfl, hb⟩; have k6 : Bel W w6 := Bel.trans (by repeat (first | assumption | exact Bel.refl _ | refine Bel.drew ?_)) hb; clear hb))
    go_wp2_with fail
    refine bodyPost_ret (v := .tuple #[.int .i64 (n - 1 - (t - n)), .bool true]) (by simp [results, Try.results53, go_sem]) rfl ⟨rfl, L1.out.trans (Below.mono k6 L1.out.size)⟩

theorem RIndex_any (m i n : Int) (hn : n ≤ 9223372036854775807) (hi : -9223372036854775808 ≤ i ∧ i ≤ 9223372036854775807) (w : World) : Calls Try.prog 53 #[.int .i64 m, .int .i64 i, .int .i64 n] w (Told2 w (idxV m i n) (idxB m i n)) := by
  by_cases h : n < 1 ∨ ¬ (0 ≤ m ∧ m ≤ 3)
  · have ho : okM m n = false := by simp [okM]; omega
    rw [show idxV m i n = 0 by simp [idxV, ho], show idxB m i n = false by simp [idxB, ho]]
    exact RIndex_none m i n h w
  · have ho : okM m n = true := by simp [okM]; omega
    by_cases h3 : 0 ≤ i ∧ i < n
    · rw [show idxV m i n = i by simp [idxV, ho, h3], show idxB m i n = true by simp [idxB, ho, h3]]
      exact RIndex_in m i n (by omega) h3.1 h3.2 hi.2 w
    · have hx : idxV m i n = if m = 0 then 0 else if m = 1 then (if i < 0 then 0 else n - 1) else if m = 2 then i % n else mirV i n := by
        unfold idxV; rw [ho, if_neg (by decide), if_neg h3]
      have hb : idxB m i n = !decide (m = 0) := by unfold idxB; rw [ho, decide_eq_false h3]; simp
      rw [hx, hb]
      rcases (show m = 0 ∨ m = 1 ∨ m = 2 ∨ m = 3 by omega) with rfl | rfl | rfl | rfl
      · exact RIndex_const i n (by omega) h3 w
      · exact RIndex_clamp i n (by omega) h3 w
      · exact RIndex_wrap i n hi (by omega) h3 w
      · show Calls _ _ _ _ (Told2 w (mirV i n) true)
        rw [mir_twice (by omega)]
        by_cases k : i % (n + n) < n
        · rw [if_pos k]; exact RIndex_low i n hi (by omega) h3 k w
        · rw [if_neg k]; exact RIndex_high i n hi (by omega) h3 k w

end Go.Proofs.Ytbogckpnajjlmaa
