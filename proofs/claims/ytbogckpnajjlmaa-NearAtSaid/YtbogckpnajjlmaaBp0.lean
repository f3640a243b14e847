/-
Pixels of an image or beyond it, as functions of numbers. No statement is proved here.
-/
import Derived.Test.YtbogckpnajjlmaaHas7
import Derived.Test.YtbogckpnajjlmaaBord2
namespace Go.Proofs.Ytbogckpnajjlmaa
open Go.RowKit

/-- what is wrong with an image, or with its border -/
def bcheckZ (x y c n mode : Int) : Int := if checkZ x y c n ≠ 0 then checkZ x y c n else bchkZ mode
theorem bcheck_zero {x y c n mode : Int} (h : bcheckZ x y c n mode = 0) : checkZ x y c n = 0 ∧ 0 ≤ mode ∧ mode ≤ 3 := by
  unfold bcheckZ bchkZ at h
  by_cases k : checkZ x y c n = 0
  · rw [if_neg (by simpa using k)] at h
    split at h
    · rename_i q; exact ⟨k, q.1, q.2⟩
    · omega
  · rw [if_pos k] at h; exact absurd h k
theorem mirV_in {i n : Int} (hn : 1 ≤ n) : 0 ≤ mirV i n ∧ mirV i n < n := by
  have h1 := Int.emod_nonneg i (show n ≠ 0 by omega)
  have h2 := Int.emod_lt_of_pos i (show 0 < n by omega)
  unfold mirV
  split <;> omega
theorem idx_in {m i n : Int} (hm : 0 ≤ m ∧ m ≤ 3) (hn : 1 ≤ n) : 0 ≤ idxV m i n ∧ idxV m i n < n := by
  have ho : okM m n = true := by simp [okM]; omega
  have h1 := Int.emod_nonneg i (show n ≠ 0 by omega)
  have h2 := Int.emod_lt_of_pos i (show 0 < n by omega)
  have h3 := mirV_in (i := i) hn
  unfold idxV
  rw [if_neg (by rw [ho]; decide)]
  repeat' split
  all_goals omega
theorem size_ok {x y c n : Int} (h : checkZ x y c n = 0) : 1 ≤ x ∧ x ≤ 32768 ∧ 1 ≤ y ∧ y ≤ 32768 ∧ (c = 1 ∨ c = 3 ∨ c = 4) := by
  obtain ⟨f, _⟩ := check_zero h
  obtain ⟨hc, h1, h2, _, _⟩ := fits_zero f
  exact ⟨by omega, by omega, by omega, by omega, hc⟩
/-- the pixel at a place of an image or beyond it is there -/
def bthere (x y mode px py : Int) : Bool := idxB mode px x && idxB mode py y
/-- where its bytes begin -/
def bat (x y c mode px py : Int) : Int := (idxV mode py y * x + idxV mode px x) * c
theorem bat_has {x y c n mode : Int} (h : bcheckZ x y c n mode = 0) (px py k : Int) (hk : 0 ≤ k ∧ k < c) : hasP x y c n (idxV mode px x) (idxV mode py y) k := by
  obtain ⟨hc, hm⟩ := bcheck_zero h
  obtain ⟨x1, _, y1, _, _⟩ := size_ok hc
  have a := idx_in (i := px) hm x1
  have b := idx_in (i := py) hm y1
  exact ⟨hc, a.1, a.2, b.1, b.2, hk.1, hk.2⟩
/-- the pixel's bytes -/
def pixL (x y c : Int) (xs : List Int) (mode : Int) (ks : List Int) (px py : Int) : List Int :=
  if bthere x y mode px py then (xs.drop (bat x y c mode px py).toNat).take c.toNat else ks.take c.toNat
theorem pixL_length {x y c n mode : Int} {xs ks : List Int} (h : bcheckZ x y c n mode = 0) (hx : (xs.length : Int) = n) (hk : ks.length = 4) (px py : Int) : ((pixL x y c xs mode ks px py).length : Int) = c := by
  obtain ⟨hc, hm⟩ := bcheck_zero h
  obtain ⟨_, _, _, _, c1⟩ := size_ok hc
  obtain ⟨_, _, ⟨r1, r2⟩, _⟩ := has_in (bat_has h px py 0 (by omega))
  unfold pixL
  split
  · unfold bat
    generalize (idxV mode py y * x + idxV mode px x) * c = p at *
    simp
    omega
  · simp; omega
theorem pixL_get {x y c n mode : Int} {xs ks : List Int} (h : bcheckZ x y c n mode = 0) (px py : Int) (k : Int) (k0 : 0 ≤ k) (k1 : k < c) :
    (pixL x y c xs mode ks px py).getD k.toNat 0 = if bthere x y mode px py then xs.getD (bat x y c mode px py + k).toNat 0 else ks.getD k.toNat 0 := by
  obtain ⟨_, _, ⟨r1, r2⟩, _⟩ := has_in (bat_has h px py k ⟨k0, k1⟩)
  unfold pixL
  split
  · unfold bat
    generalize (idxV mode py y * x + idxV mode px x) * c = p at *
    rw [List.getD_eq_getElem?_getD, List.getD_eq_getElem?_getD, List.getElem?_take, if_pos (by omega), List.getElem?_drop]
    rw [show p.toNat + k.toNat = (p + k).toNat by omega]
  · rw [List.getD_eq_getElem?_getD, List.getD_eq_getElem?_getD, List.getElem?_take, if_pos (by omega)]
theorem pixL_byte {x y c mode : Int} {xs ks : List Int} (h1 : ∀ z ∈ xs, 0 ≤ z ∧ z ≤ 255) (h2 : ∀ z ∈ ks, 0 ≤ z ∧ z ≤ 255) (px py : Int) : ∀ z ∈ pixL x y c xs mode ks px py, 0 ≤ z ∧ z ≤ 255 := by
  intro z hz
  unfold pixL at hz
  split at hz
  · exact h1 z (List.mem_of_mem_drop (List.mem_of_mem_take hz))
  · exact h2 z (List.mem_of_mem_take hz)
end Go.Proofs.Ytbogckpnajjlmaa
