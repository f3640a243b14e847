/-
Plain rectangles: which are right, which have no places, and what comes of two. No program, no statement.
-/
import Derived.Lib.Hide
namespace Go.Proofs.Ytghnaocejbiidaa

structure Rc where
  a : Int
  b : Int
  c : Int
  d : Int
deriving DecidableEq

def nearB (x : Int) : Bool := decide (-2147483648 ≤ x ∧ x ≤ 2147483648)
def rightB (r : Rc) : Bool := nearB r.a && (nearB r.b && (nearB r.c && nearB r.d))
def empB (r : Rc) : Bool := !rightB r || (decide (r.c ≤ r.a) || decide (r.d ≤ r.b))
def nm (r : Rc) : Rc := if empB r = true then ⟨0, 0, 0, 0⟩ else r
def areaZ (r : Rc) : Int := if empB r = true then 0 else min ((r.c - r.a) * (r.d - r.b)) 9223372036854775807
def bothR (r s : Rc) : Rc := nm ⟨max (nm r).a (nm s).a, max (nm r).b (nm s).b, min (nm r).c (nm s).c, min (nm r).d (nm s).d⟩
def aroundR (r s : Rc) : Rc := if empB r = true then nm s else if empB s = true then r else ⟨min r.a s.a, min r.b s.b, max r.c s.c, max r.d s.d⟩
def cutZ (x : Int) : Int := max (-2147483648) (min x 2147483648)
def nearZ (x : Int) : Int := if nearB x = true then x else 0
def growR (r : Rc) (by_ : Int) : Rc := if empB r = true then ⟨0, 0, 0, 0⟩ else nm ⟨cutZ (r.a - nearZ by_), cutZ (r.b - nearZ by_), cutZ (r.c + nearZ by_), cutZ (r.d + nearZ by_)⟩
def hasB (r : Rc) (x y : Int) : Bool := decide ((nm r).a ≤ x ∧ x < (nm r).c ∧ (nm r).b ≤ y ∧ y < (nm r).d)
def inB (r s : Rc) : Bool := decide (bothR r s = nm r)

theorem nearB_iff {x : Int} : nearB x = true ↔ -2147483648 ≤ x ∧ x ≤ 2147483648 := by simp [nearB]
theorem emp_iff {r : Rc} : empB r = true ↔ ¬ ((-2147483648 ≤ r.a ∧ r.a ≤ 2147483648) ∧ (-2147483648 ≤ r.b ∧ r.b ≤ 2147483648) ∧ (-2147483648 ≤ r.c ∧ r.c ≤ 2147483648) ∧ (-2147483648 ≤ r.d ∧ r.d ≤ 2147483648) ∧ r.a < r.c ∧ r.b < r.d) := by
  simp [empB, rightB, nearB]; omega
theorem emp_not {r : Rc} (h : empB r = false) : (-2147483648 ≤ r.a ∧ r.a ≤ 2147483648) ∧ (-2147483648 ≤ r.b ∧ r.b ≤ 2147483648) ∧ (-2147483648 ≤ r.c ∧ r.c ≤ 2147483648) ∧ (-2147483648 ≤ r.d ∧ r.d ≤ 2147483648) ∧ r.a < r.c ∧ r.b < r.d := by
  by_cases k : (-2147483648 ≤ r.a ∧ r.a ≤ 2147483648) ∧ (-2147483648 ≤ r.b ∧ r.b ≤ 2147483648) ∧ (-2147483648 ≤ r.c ∧ r.c ≤ 2147483648) ∧ (-2147483648 ≤ r.d ∧ r.d ≤ 2147483648) ∧ r.a < r.c ∧ r.b < r.d
  · exact k
  · rw [emp_iff.2 k] at h; cases h
theorem nm_emp {r : Rc} (h : empB r = true) : nm r = ⟨0, 0, 0, 0⟩ := by simp [nm, h]
theorem nm_not {r : Rc} (h : empB r = false) : nm r = r := by simp [nm, h]
theorem emp_zero : empB ⟨0, 0, 0, 0⟩ = true := by decide
theorem nm_zero : nm ⟨0, 0, 0, 0⟩ = ⟨0, 0, 0, 0⟩ := nm_emp emp_zero
theorem emp_nm (r : Rc) : empB (nm r) = empB r := by
  cases h : empB r
  · rw [nm_not h, h]
  · rw [nm_emp h, emp_zero]
theorem nm_nm (r : Rc) : nm (nm r) = nm r := by
  cases h : empB r
  · rw [nm_not h, nm_not h]
  · rw [nm_emp h, nm_zero]
theorem nm_bd (r : Rc) : (-2147483648 ≤ (nm r).a ∧ (nm r).a ≤ 2147483648) ∧ (-2147483648 ≤ (nm r).b ∧ (nm r).b ≤ 2147483648) ∧ (-2147483648 ≤ (nm r).c ∧ (nm r).c ≤ 2147483648) ∧ (-2147483648 ≤ (nm r).d ∧ (nm r).d ≤ 2147483648) := by
  cases h : empB r
  · rw [nm_not h]; have := emp_not h; omega
  · rw [nm_emp h]; simp
theorem area_nm (r : Rc) : areaZ (nm r) = areaZ r := by
  cases h : empB r
  · rw [nm_not h]
  · rw [nm_emp h]; simp [areaZ, h, emp_zero]
theorem area_zero (r : Rc) : (areaZ r == 0) = empB r := by
  cases h : empB r
  · have k := emp_not h
    have h1 : 1 * 1 ≤ (r.c - r.a) * (r.d - r.b) := Int.mul_le_mul (by omega) (by omega) (by omega) (by omega)
    simp only [areaZ, h]
    rw [beq_eq_false_iff_ne]
    simp only [Bool.false_eq_true, if_false]
    omega
  · simp [areaZ, h]
theorem has_nm {r : Rc} {x y : Int} : hasB r x y = true ↔ (nm r).a ≤ x ∧ x < (nm r).c ∧ (nm r).b ≤ y ∧ y < (nm r).d := by simp [hasB]
theorem has_iff {r : Rc} {x y : Int} : hasB r x y = true ↔ empB r = false ∧ r.a ≤ x ∧ x < r.c ∧ r.b ≤ y ∧ y < r.d := by
  cases h : empB r
  · rw [has_nm, nm_not h]; simp
  · rw [has_nm, nm_emp h]; simp
theorem emp_of_mk {a b c d : Int} (ha : -2147483648 ≤ a ∧ a ≤ 2147483648) (hb : -2147483648 ≤ b ∧ b ≤ 2147483648) (hc : -2147483648 ≤ c ∧ c ≤ 2147483648) (hd : -2147483648 ≤ d ∧ d ≤ 2147483648) : empB ⟨a, b, c, d⟩ = false ↔ a < c ∧ b < d := by
  constructor
  · intro h; have := emp_not h; exact this.2.2.2.2
  · intro h
    cases k : empB ⟨a, b, c, d⟩
    · rfl
    · exact absurd ⟨ha, hb, hc, hd, h⟩ (emp_iff.1 k)
theorem both_not {r s : Rc} (hr : empB r = false) (hs : empB s = false) : bothR r s = nm ⟨max r.a s.a, max r.b s.b, min r.c s.c, min r.d s.d⟩ := by simp [bothR, nm_not hr, nm_not hs]
theorem both_emp {r s : Rc} (h : empB r = true ∨ empB s = true) : bothR r s = ⟨0, 0, 0, 0⟩ := by
  have h1 := nm_bd r
  have h2 := nm_bd s
  refine nm_emp (emp_iff.2 fun k => ?_)
  rcases h with h | h
  · rw [nm_emp h] at k; simp at k
    cases h2 : empB s
    · rw [nm_not h2] at k; have := emp_not h2; omega
    · rw [nm_emp h2] at k; simp at k
  · rw [nm_emp h] at k; simp at k
    cases h2 : empB r
    · rw [nm_not h2] at k; have := emp_not h2; omega
    · rw [nm_emp h2] at k; simp at k
theorem both_comm (r s : Rc) : bothR r s = bothR s r := by
  unfold bothR
  rw [Int.max_comm (nm r).a, Int.max_comm (nm r).b, Int.min_comm (nm r).c, Int.min_comm (nm r).d]
theorem around_comm (r s : Rc) : aroundR r s = aroundR s r := by
  unfold aroundR
  cases hr : empB r <;> cases hs : empB s
  · simp only [Bool.false_eq_true, if_false]; rw [Int.min_comm r.a, Int.min_comm r.b, Int.max_comm r.c, Int.max_comm r.d]
  · simp [nm, hr]
  · simp [nm, hs]
  · simp [nm, hr, hs]
theorem has_both {r s : Rc} {x y : Int} : hasB (bothR r s) x y = (hasB r x y && hasB s x y) := by
  rw [Bool.eq_iff_iff, Bool.and_eq_true, has_iff, has_iff, has_iff]
  cases hr : empB r
  · cases hs : empB s
    · have e := both_not hr hs
      have k1 := emp_not hr
      have k2 := emp_not hs
      by_cases k : max r.a s.a < min r.c s.c ∧ max r.b s.b < min r.d s.d
      · have h0 : empB ⟨max r.a s.a, max r.b s.b, min r.c s.c, min r.d s.d⟩ = false := (emp_of_mk (by omega) (by omega) (by omega) (by omega)).2 k
        rw [e, nm_not h0]
        simp [h0]; omega
      · have h0 : empB ⟨max r.a s.a, max r.b s.b, min r.c s.c, min r.d s.d⟩ = true := emp_iff.2 fun q => k q.2.2.2.2
        rw [e, nm_emp h0]
        simp [emp_zero]; omega
    · rw [both_emp (.inr hs)]; simp [emp_zero]
  · rw [both_emp (.inl hr)]; simp [emp_zero]
theorem has_around {r s : Rc} {x y : Int} (h : hasB r x y = true ∨ hasB s x y = true) : hasB (aroundR r s) x y = true := by
  unfold aroundR
  rw [has_iff] at h ⊢
  cases hr : empB r
  · cases hs : empB s
    · have k1 := emp_not hr
      have k2 := emp_not hs
      rw [has_iff] at h
      simp only [Bool.false_eq_true, if_false]
      refine ⟨(emp_of_mk (by omega) (by omega) (by omega) (by omega)).2 (by omega), ?_⟩
      omega
    · rw [has_iff] at h
      simp [hr, hs] at h ⊢; exact h
  · rw [has_iff] at h
    simp [hr] at h ⊢
    rw [nm_not h.1]; exact h
theorem in_around_l (r s : Rc) : inB r (aroundR r s) = true := by
  unfold inB
  rw [decide_eq_true_iff]
  unfold aroundR
  cases hr : empB r
  · cases hs : empB s
    · have k1 := emp_not hr
      have k2 := emp_not hs
      simp only [Bool.false_eq_true, if_false]
      have h0 : empB ⟨min r.a s.a, min r.b s.b, max r.c s.c, max r.d s.d⟩ = false := (emp_of_mk (by omega) (by omega) (by omega) (by omega)).2 (by omega)
      rw [both_not hr h0]
      congr 1
      cases r; simp only [Rc.mk.injEq]; omega
    · simp only [Bool.false_eq_true, if_false, if_true]
      rw [both_not hr hr]; congr 1; cases r; simp
  · simp only [if_true]
    rw [both_emp (.inl hr), nm_emp hr]
theorem in_around_r (r s : Rc) : inB s (aroundR r s) = true := by rw [around_comm]; exact in_around_l s r
theorem in_both (r s : Rc) : inB (bothR r s) r = true := by
  unfold inB
  rw [decide_eq_true_iff]
  have e0 : nm (bothR r s) = bothR r s := nm_nm _
  rw [e0]
  cases h : empB (bothR r s)
  · have hr : empB r = false := by
      cases k : empB r
      · rfl
      · rw [both_emp (.inl k), emp_zero] at h; cases h
    have hs : empB s = false := by
      cases k : empB s
      · rfl
      · rw [both_emp (.inr k), emp_zero] at h; cases h
    rw [both_not h hr]
    have k1 := emp_not hr
    have k2 := emp_not hs
    have e := both_not hr hs
    have h0 : empB ⟨max r.a s.a, max r.b s.b, min r.c s.c, min r.d s.d⟩ = false := by
      cases k : empB ⟨max r.a s.a, max r.b s.b, min r.c s.c, min r.d s.d⟩
      · rfl
      · rw [e, nm_emp k, emp_zero] at h; cases h
    rw [nm_not h0] at e
    rw [e]
    rw [show (⟨max (max r.a s.a) r.a, max (max r.b s.b) r.b, min (min r.c s.c) r.c, min (min r.d s.d) r.d⟩ : Rc) = ⟨max r.a s.a, max r.b s.b, min r.c s.c, min r.d s.d⟩ by simp only [Rc.mk.injEq]; omega]
    exact nm_not h0
  · have : bothR r s = ⟨0, 0, 0, 0⟩ := by rw [← e0]; exact nm_emp h
    rw [both_emp (.inl h), this]
/-- in another one: just if it has no places, or what both have is it -/
theorem in_either (r s : Rc) : inB r s = (empB r || decide (bothR r s = nm r)) := by
  unfold inB
  cases h : empB r
  · simp
  · simp [both_emp (.inl h), nm_emp h]

end Go.Proofs.Ytghnaocejbiidaa
