/-
Bytes in memory, and what is right of an image. No program, no statement.
-/
import Derived.Test.YtehkccogbgjcaaaKit
import Derived.Shelf.Bytes.SlEqualAll
namespace Go.Proofs.Ytehkccogbgjcaaa
open Go.RowKit

/-- what a size asks: the code -/
def fitsZ (w h c : Int) : Int := if ¬ (c = 1 ∨ c = 3 ∨ c = 4) then 10 else if 32768 < w ∨ 32768 < h then 30 else if w < 1 ∨ h < 1 then 12 else if 4194304 < w * h then 30 else 0
/-- what an image asks: the code -/
def checkZ (w h c n : Int) : Int := if fitsZ w h c = 0 then (if n = w * h * c then 0 else 12) else fitsZ w h c
theorem fits_c {w h c : Int} (k : ¬ (c = 1 ∨ c = 3 ∨ c = 4)) : fitsZ w h c = 10 := if_pos k
theorem fits_lim {w h c : Int} (k : c = 1 ∨ c = 3 ∨ c = 4) (k1 : 32768 < w ∨ 32768 < h) : fitsZ w h c = 30 := by rw [fitsZ, if_neg (fun q => q k), if_pos k1]
theorem fits_low {w h c : Int} (k : c = 1 ∨ c = 3 ∨ c = 4) (k1 : ¬ (32768 < w ∨ 32768 < h)) (k2 : w < 1 ∨ h < 1) : fitsZ w h c = 12 := by rw [fitsZ, if_neg (fun q => q k), if_neg k1, if_pos k2]
theorem fits_big {w h c : Int} (k : c = 1 ∨ c = 3 ∨ c = 4) (k1 : ¬ (32768 < w ∨ 32768 < h)) (k2 : ¬ (w < 1 ∨ h < 1)) (k3 : 4194304 < w * h) : fitsZ w h c = 30 := by rw [fitsZ, if_neg (fun q => q k), if_neg k1, if_neg k2, if_pos k3]
theorem fits_ok {w h c : Int} (k : c = 1 ∨ c = 3 ∨ c = 4) (k1 : ¬ (32768 < w ∨ 32768 < h)) (k2 : ¬ (w < 1 ∨ h < 1)) (k3 : ¬ 4194304 < w * h) : fitsZ w h c = 0 := by rw [fitsZ, if_neg (fun q => q k), if_neg k1, if_neg k2, if_neg k3]
theorem fits_zero {w h c : Int} (h0 : fitsZ w h c = 0) : (c = 1 ∨ c = 3 ∨ c = 4) ∧ (1 ≤ w ∧ w ≤ 32768) ∧ (1 ≤ h ∧ h ≤ 32768) ∧ 1 ≤ w * h ∧ w * h ≤ 4194304 := by
  by_cases k : c = 1 ∨ c = 3 ∨ c = 4
  · by_cases k1 : 32768 < w ∨ 32768 < h
    · rw [fits_lim k k1] at h0; omega
    · by_cases k2 : w < 1 ∨ h < 1
      · rw [fits_low k k1 k2] at h0; omega
      · by_cases k3 : 4194304 < w * h
        · rw [fits_big k k1 k2 k3] at h0; omega
        · have : 1 * 1 ≤ w * h := Int.mul_le_mul (by omega) (by omega) (by omega) (by omega)
          exact ⟨k, by omega, by omega, by omega, by omega⟩
  · rw [fits_c k] at h0; omega
theorem side_prod {w h : Int} (k1 : ¬ (32768 < w ∨ 32768 < h)) (k2 : ¬ (w < 1 ∨ h < 1)) : 0 ≤ w * h ∧ w * h ≤ 1073741824 := by
  have h1 : 0 ≤ w * h := Int.mul_nonneg (by omega) (by omega)
  have h2 : w * h ≤ 32768 * 32768 := Int.mul_le_mul (by omega) (by omega) (by omega) (by omega)
  omega

/-- a slice that holds these bytes -/
def BY (w : World) (A : Option Addr) (n c : Nat) (xs : List Int) : Prop :=
  xs.length = n ∧ n ≤ c ∧ c ≤ maxLen ∧ (∀ x ∈ xs, 0 ≤ x ∧ x ≤ 255) ∧ (0 < n → ∃ b o, A = some ⟨b, o, none⟩ ∧ b < w.heap.size ∧ ∀ i, i < n → w.cell? ⟨b, o + i, none⟩ = some (.int .u8 (xs.getD i 0)))
theorem BY.below {w w' : World} {A : Option Addr} {n c : Nat} {xs : List Int} (h : BY w A n c xs) (hb : Below w.heap.size w w') : BY w' A n c xs := by
  obtain ⟨h1, h2, h3, h4, h5⟩ := h
  refine ⟨h1, h2, h3, h4, fun hn => ?_⟩
  obtain ⟨b, o, e, hlt, hc⟩ := h5 hn
  exact ⟨b, o, e, Nat.lt_of_lt_of_le hlt hb.size, fun i hi => (hb.cell (p := ⟨b, o + i, none⟩) hlt).trans (hc i hi)⟩
theorem BY.drew {w : World} {A : Option Addr} {n c : Nat} {xs : List Int} (h : BY w A n c xs) : BY w.drew A n c xs := h
theorem BY.bytesIn {w : World} {A : Option Addr} {n c : Nat} {xs : List Int} (h : BY w A n c xs) : Lib.BytesIn w A n xs := fun hn => by
  obtain ⟨b, o, e, _, hc⟩ := h.2.2.2.2 hn
  exact ⟨b, o, e, hc⟩
theorem BY.nil (w : World) (A : Option Addr) (c : Nat) (hc : c ≤ maxLen) : BY w A 0 c [] := ⟨rfl, Nat.zero_le _, hc, fun x hx => (by cases hx), fun h => absurd h (by omega)⟩

theorem bytesOf_inj {xs ys : List Int} (hx : ∀ x ∈ xs, 0 ≤ x ∧ x ≤ 255) (hy : ∀ x ∈ ys, 0 ≤ x ∧ x ≤ 255) : (Lib.bytesOf xs == Lib.bytesOf ys) = decide (xs = ys) := by
  rw [Bool.eq_iff_iff, beq_iff_eq, decide_eq_true_iff]
  constructor
  · intro h
    induction xs generalizing ys with
    | nil =>
      cases ys with
      | nil => rfl
      | cons y ys => simp [Lib.bytesOf] at h
    | cons x xs ih =>
      cases ys with
      | nil => simp [Lib.bytesOf] at h
      | cons y ys =>
        simp [Lib.bytesOf] at h
        have e := ih (ys := ys) (fun a ha => hx a (List.mem_cons_of_mem _ ha)) (fun a ha => hy a (List.mem_cons_of_mem _ ha)) (by simpa [Lib.bytesOf] using h.2)
        have h1 := hx x List.mem_cons_self
        have h2 := hy y List.mem_cons_self
        have := congrArg UInt8.toNat h.1
        simp at this
        rw [e]
        congr 1
        omega
  · rintro rfl; rfl

end Go.Proofs.Ytehkccogbgjcaaa
