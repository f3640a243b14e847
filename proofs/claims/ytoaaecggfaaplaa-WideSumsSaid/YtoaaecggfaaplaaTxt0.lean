/-
Plain decimal digits. No program, no statement.
-/
import Derived.Lib.Hide
namespace Go.Proofs.Ytoaaecggfaaplaa

/-- the decimal digits of u as letters, ahead of L: at least one -/
def dtx (u : Nat) (L : List Nat) : List Nat := if u / 10 = 0 then (48 + u % 10) :: L else dtx (u / 10) ((48 + u % 10) :: L)
termination_by u
decreasing_by omega
theorem dtx_app (u : Nat) (L : List Nat) : dtx u L = dtx u [] ++ L := by
  induction u using Nat.strongRecOn generalizing L with
  | ind u ih =>
    rw [dtx]
    by_cases h : u / 10 = 0
    · rw [if_pos h, dtx, if_pos h]; rfl
    · rw [if_neg h, ih (u / 10) (by omega)]
      conv => rhs; rw [dtx, if_neg h, ih (u / 10) (by omega) [48 + u % 10], List.append_assoc]
      rfl
/-- where the letters stand behind j rounds -/
def TxState (u0 j u : Nat) (L : List Nat) : Prop := L.length = j ∧ (∀ d ∈ L, d < 128) ∧ u * 10 ^ j ≤ u0 ∧ ((j = 0 ∧ u = u0) ∨ (0 < j ∧ ((u = 0 ∧ dtx u0 [] = L) ∨ (0 < u ∧ dtx u L = dtx u0 []))))
theorem TxState.start (u : Nat) : TxState u 0 u [] := ⟨rfl, by simp, by simp, .inl ⟨rfl, rfl⟩⟩
theorem TxState.step {u0 j u : Nat} {L : List Nat} (h : TxState u0 j u L) (hg : j = 0 ∨ 0 < u) : TxState u0 (j + 1) (u / 10) ((48 + u % 10) :: L) := by
  obtain ⟨h1, h2, h3, h4⟩ := h
  refine ⟨by simp [h1], ?_, ?_, .inr ⟨by omega, ?_⟩⟩
  · intro d hd
    rcases List.mem_cons.1 hd with rfl | hd
    · omega
    · exact h2 d hd
  · have : u / 10 * 10 ≤ u := Nat.div_mul_le_self _ _
    have h5 : u / 10 * 10 * 10 ^ j ≤ u * 10 ^ j := Nat.mul_le_mul_right _ this
    rw [Nat.pow_succ, Nat.mul_comm (10 ^ j) 10, ← Nat.mul_assoc]
    omega
  · have hd : dtx u L = dtx u0 [] := by
      rcases h4 with ⟨rfl, rfl⟩ | ⟨_, h4 | h4⟩
      · have : L = [] := List.eq_nil_of_length_eq_zero h1
        rw [this]
      · omega
      · exact h4.2
    rw [← hd]
    by_cases h0 : u / 10 = 0
    · left; exact ⟨h0, by rw [dtx, if_pos h0]⟩
    · right; refine ⟨by omega, ?_⟩
      conv => rhs; rw [dtx, if_neg h0]
theorem TxState.room {u0 j u : Nat} {L : List Nat} (h : TxState u0 j u L) (hu : u0 ≤ 170141183460469231731687303715884105728) (hg : j = 0 ∨ 0 < u) : j ≤ 38 := by
  obtain ⟨h1, h2, h3, h4⟩ := h
  rcases hg with rfl | hg
  · omega
  · by_cases hj : j ≤ 38
    · exact hj
    · have e1 : 10 ^ 39 ≤ 10 ^ j := Nat.pow_le_pow_right (by omega) (by omega)
      have e2 : 1 * 10 ^ j ≤ u * 10 ^ j := Nat.mul_le_mul_right _ hg
      have e3 : (10 : Nat) ^ 39 = 1000000000000000000000000000000000000000 := by decide
      omega
theorem TxState.done {u0 j u : Nat} {L : List Nat} (h : TxState u0 j u L) (hg : 0 < j ∧ u = 0) : dtx u0 [] = L := by
  obtain ⟨h1, h2, h3, h4⟩ := h
  rcases h4 with ⟨rfl, _⟩ | ⟨_, h4 | h4⟩
  · omega
  · exact h4.2
  · omega
end Go.Proofs.Ytoaaecggfaaplaa
