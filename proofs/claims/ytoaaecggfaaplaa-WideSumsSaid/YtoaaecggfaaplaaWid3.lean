/-
Contracts of package wide: tenth, Text. No statement is proved here.
-/
import Derived.Test.YtoaaecggfaaplaaWid2
import Derived.Test.YtoaaecggfaaplaaDiv4
namespace Go.Proofs.Ytoaaecggfaaplaa
open Go.RowKit

def TenthPost (w : World) (u : Nat) (e : Ending) (w' : World) : Prop := ∃ hi lo d : Nat, e = .returned (.tuple #[.agg #[.int .u64 hi, .int .u64 lo], .int .u64 d]) ∧ Siz hi lo (u / 10) ∧ d = u % 10 ∧ Below w.heap.size w w'

theorem tenth_num {hi lo u : Nat} (h : Siz hi lo u) : Siz (hi / 10) ((hi % 10 * 18446744073709551616 + lo) / 10) (u / 10) ∧ (hi % 10 * 18446744073709551616 + lo) % 10 = u % 10 := by
  unfold Siz at *; omega

set_option maxHeartbeats 800000 in
theorem tenth_any (hi lo u : Nat) (h : Siz hi lo u) (w : World) :
    Calls Try.prog 49 #[.agg #[.int .u64 hi, .int .u64 lo]] w (TenthPost w u) := by
  have HN := hide (tenth_num h)
  have H := hide (below_alloc2 w)
  have HD := hide (fun w => Div64_any (hi % 10) lo 10 w (by omega) (by unfold Siz at h; omega) (by omega))
  have hh : (hi : Int) ≤ 18446744073709551615 := by unfold Siz at h; omega
  obtain ⟨q, hq⟩ : ∃ q : Nat, q = hi / 10 := ⟨_, rfl⟩
  obtain ⟨r, hr⟩ : ∃ r : Nat, r = hi % 10 := ⟨_, rfl⟩
  rw [← hq, ← hr] at HN
  rw [← hr] at HD
  have e1 : (hi : Int) / 10 = (q : Int) := by omega
  have e2 : (hi : Int) % 10 = (r : Int) := by omega
  generalize (r * 18446744073709551616 + lo) / 10 = dq at *
  generalize (r * 18446744073709551616 + lo) % 10 = dr at *
  clear h hq hr
  go_enter Try.func49, Try.ntmps49
  go_wp2_with fail
  go_quiet (fail)
  go_wp2_with fail
  refine (HD.out _).mono ?_
  rintro e w1 ⟨rfl, hb⟩
  have hc : ∀ b o, b < w.heap.size + 1 + 1 → w1.cell? ⟨b, o, none⟩ = ((w.alloc (.cells #[.int .u64 hi, .int .u64 lo] 68)).alloc (.cells #[.int .u64 0, .int .u64 0] 68)).cell? ⟨b, o, none⟩ := fun b o h => (Bel.cell hb o (by simpa using h)).trans rfl
  have hf : ∀ b o, b < w.heap.size + 1 + 1 → w1.frozen? ⟨b, o, none⟩ = ((w.alloc (.cells #[.int .u64 hi, .int .u64 lo] 68)).alloc (.cells #[.int .u64 0, .int .u64 0] 68)).frozen? ⟨b, o, none⟩ := fun b o h => (Bel.frozen hb o (by simpa using h)).trans rfl
  have HB := hide hb
  clear hb
  go_wp2_with fail
  refine bodyPost_ret (v := .tuple #[.agg #[.int .u64 q, .int .u64 dq], .int .u64 dr]) (by simp [results, Try.results49, go_sem, hc]) rfl ⟨q, dq, dr, rfl, HN.out.1, HN.out.2, ?_⟩
  exact below_set2 ((below_drewN (H.out _ _) nq).trans (Below.mono HB.out (by simp; omega))) (by omega) _ _

end Go.Proofs.Ytoaaecggfaaplaa
