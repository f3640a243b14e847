/-
Contracts of how high a peak stands: package diff, and its reference. No statement is proved here.
-/
import Derived.Test.YtbpnnjnkjbpmaaaDiff1
import Derived.Test.YtbpnnjnkjbpmaaaSmall
import Derived.Test.YtbpnnjnkjbpmaaaPow
namespace Go.Proofs.Ytbpnnjnkjbpmaaa
open Go.RowKit

def peakZ (q n : Int) : Int := if n < 1 ∨ q = 0 then 0 else 65025 * min n 1099511627776 / q
theorem peak_in {q n : Int} (hq : 1 ≤ q) (hn : 1 ≤ n) : 0 ≤ 65025 * min n 1099511627776 / q ∧ 65025 * min n 1099511627776 / q ≤ 71495743596134400 := by
  have h1 : 0 ≤ 65025 * min n 1099511627776 := by omega
  have h2 := Int.ediv_nonneg h1 (show 0 ≤ q by omega)
  have h3 := Int.ediv_le_self q h1
  omega

theorem Peak_any (a b s q x y k n : Int) (hq : 0 ≤ q ∧ q ≤ 18446744073709551615) (hn : n ≤ 9223372036854775807) (w : World) : Calls Try.prog 16 #[.agg #[.int .i64 a, .int .i64 b, .int .u64 s, .int .u64 q, .int .i64 x, .int .i64 y, .int .i64 k], .int .i64 n] w (Says w (.int .i64 (peakZ q n))) := by
  have H := hide (below_alloc w)
  obtain ⟨q1, q2⟩ := hq
  by_cases h1 : n < 1
  · rw [show peakZ q n = 0 from if_pos (.inl h1)]
    go_enter Try.func16, Try.ntmps16
    go_wp2_with fail
    go_ret
    exact ⟨rfl, H.out _⟩
  · by_cases h2 : q = 0
    · rw [show peakZ q n = 0 from if_pos (.inr h2)]
      subst h2
      go_enter Try.func16, Try.ntmps16
      go_wp2_with fail
      go_ret
      exact ⟨rfl, H.out _⟩
    · rw [show peakZ q n = 65025 * min n 1099511627776 / q from if_neg (by omega)]
      have b1 : (q == 0) = false := by simpa using h2
      have q3 : 1 ≤ q := by omega
      have n1 : 1 ≤ n := by omega
      obtain ⟨p1, p2⟩ := peak_in q3 n1
      have m1 : 1 ≤ min n 1099511627776 := by omega
      have m2 : min n 1099511627776 ≤ 1099511627776 := by omega
      have hx := if_max
      have hnn := if_min
      clear h2
      go_enter Try.func16, Try.ntmps16
      go_wp2_with fail
      go_ret
      exact ⟨rfl, H.out _⟩

set_option maxHeartbeats 2000000 in
theorem RPeak_some (q : Nat) (n : Int) (hq : 1 ≤ q) (hq2 : q ≤ 18446744073709551615) (n1 : 1 ≤ n) (hn : n ≤ 9223372036854775807) (w : World) : Calls Try.prog 17 #[.int .u64 q, .int .i64 n] w (Says w (.int .i64 (65025 * min n 1099511627776 / q))) := by
  obtain ⟨p1, p2⟩ := peak_in (q := q) (by omega) n1
  have m1 : 1 ≤ min n 1099511627776 := by omega
  have m2 : min n 1099511627776 ≤ 1099511627776 := by omega
  have HO := hide (fun w => Of_any (65025 * min n 1099511627776) w (by omega) (by omega))
  have HU := hide (fun w => Uns_any q w (by omega))
  have HP := hide (fun w => Pow_any 62 (by omega) w)
  have hd : Int.fdiv (65025 * min n 1099511627776) q = 65025 * min n 1099511627776 / q := Int.fdiv_eq_ediv_of_nonneg _ (by omega)
  have HN0 := hide (show (q : Int) ≠ 0 by omega)
  have HD := Lib.hid hd
  have HR := hide (show -9223372036854775808 ≤ 65025 * min n 1099511627776 / (q : Int) ∧ 65025 * min n 1099511627776 / (q : Int) ≤ 9223372036854775807 by omega)
  have hcz : cmpZ (65025 * min n 1099511627776 / q) (2 ^ 62) = -1 := cmpZ_lt (by omega)
  have HC := Lib.hid hcz
  have b1 : ((q : Int) == 0) = false := by simp; omega
  have hnn := if_min
  obtain ⟨z, hz⟩ : ∃ z, 65025 * min n 1099511627776 / (q : Int) = z := ⟨_, rfl⟩
  rw [hz] at HD HR HC ⊢
  clear hz hd hcz p1 p2 hq
  go_enter Try.func17, Try.ntmps17
  go_wp2_with fail
  refine (HO.out _).mono ?_
  rintro e w1 ⟨s1, A1, n1', c1, rfl, hB1, hb1⟩
  have B1 := hide hB1
  have L1 := hide hb1
  clear hB1 hb1
  go_wp2_with fail
  refine (HU.out _).mono ?_
  rintro e w2 ⟨s2, A2, n2, c2, rfl, hB2, hb2⟩
  have B1' := hide (B1.out.below hb2)
  have B2 := hide hB2
  have L2 := hide (L1.out.trans (hb2.mono L1.out.size))
  clear hB2 hb2 B1 L1
  go_wp2_with fail
  refine (Floor_any 5 (by omega) _ _ _ _ _ _ _ _ (65025 * min n 1099511627776) q _ B1'.out B2.out HN0.out).mono ?_
  rw [HD.out]
  rintro e w3 ⟨s3, A3, n3, c3, rfl, hB3, hb3⟩
  have X3 := hide (Bx.at (w := w3) (g := w3.heap.size) [.bool s3, .slice A3 n3 c3] 49 rfl)
  have V3 := hide (hB3.below (below_alloc w3 (.cells #[.bool s3, .slice A3 n3 c3] 49)))
  have L3 := hide ((L2.out.trans (hb3.mono L2.out.size)).alloc (Nat.le_trans L2.out.size hb3.size) (.cells #[.bool s3, .slice A3 n3 c3] 49))
  clear hB3 hb3 B1' B2 L2
  go_wp2_with fail
  generalize w3.alloc (.cells #[.bool s3, .slice A3 n3 c3] 49) = W at X3 V3 L3 ⊢
  have KC := hide (fun w' (h : Bel W w') => (⟨(X3.out.below h).two.2.1, (X3.out.below h).two.2.2.1⟩ : w'.cell? ⟨w3.heap.size, 0, none⟩ = some (.bool s3) ∧ w'.cell? ⟨w3.heap.size, 1, none⟩ = some (.slice A3 n3 c3)))
  have KA := hide (fun w' (h : Bel W w') => V3.out.below h)
  clear X3 V3
  go_region_held3 (fun w' => w'.cell? ⟨w3.heap.size, 0, none⟩ = some (.bool s3) ∧ w'.cell? ⟨w3.heap.size, 1, none⟩ = some (.slice A3 n3 c3))
    ((refine KC.out _ ?_; repeat (first | assumption | exact Bel.refl _ | refine Bel.drew ?_)))
    (first
      | (go_at_call 26; refine (HP.out _).mono ?_; rintro e w4 ⟨s4, A4, n4, c4, rfl, hB, hb⟩; have k4 : Bel W w4 := Bel.trans (by repeat (first | assumption | exact Bel.refl _ | refine Bel.drew ?_)) hb; have B4 := hide hB; clear hB hb)
      | (go_at_call 25; refine (Cmp_any 67 (by omega) _ _ _ _ _ _ _ _ z (2 ^ 62) _ ((KA.out _ (by repeat (first | assumption | exact Bel.refl _ | refine Bel.drew ?_))).more (by omega)) B4.out).mono ?_; rw [HC.out]; rintro e w5 ⟨rfl, hb⟩; have k5 : Bel W w5 := Bel.trans (by repeat (first | assumption | exact Bel.refl _ | refine Bel.drew ?_)) hb; clear hb))
  obtain ⟨a0, a1⟩ := KC.out _ k5
  go_wp2_with fail
  refine (Small_any 11 _ _ _ _ z _ (KA.out _ (by repeat (first | assumption | exact Bel.refl _ | refine Bel.drew ?_))) HR.out.1 HR.out.2).mono ?_
  rintro e w6 ⟨rfl, hb⟩
  have k6 := hide (Bel.trans k5 hb)
  clear hb k5
  go_wp2_with fail
  go_ret
  exact ⟨rfl, L3.out.trans (Below.mono k6.out L3.out.size)⟩

theorem RPeak_any (q n : Int) (hq : 0 ≤ q ∧ q ≤ 18446744073709551615) (hn : n ≤ 9223372036854775807) (w : World) : Calls Try.prog 17 #[.int .u64 q, .int .i64 n] w (Says w (.int .i64 (peakZ q n))) := by
  obtain ⟨u, rfl⟩ := Int.eq_ofNat_of_zero_le hq.1
  by_cases h1 : n < 1
  · rw [show peakZ u n = 0 from if_pos (.inl h1)]
    go_enter Try.func17, Try.ntmps17
    go_wp2_with fail
    go_ret
    exact ⟨rfl, Below.refl _ _⟩
  · by_cases h2 : (u : Int) = 0
    · rw [show peakZ u n = 0 from if_pos (.inr h2)]
      have h3 : u = 0 := by omega
      subst h3
      go_enter Try.func17, Try.ntmps17
      go_wp2_with fail
      go_ret
      exact ⟨rfl, Below.refl _ _⟩
    · rw [show peakZ u n = 65025 * min n 1099511627776 / u from if_neg (by omega)]
      exact RPeak_some u n (by omega) (by omega) (by omega) hn w

end Go.Proofs.Ytbpnnjnkjbpmaaa
