/-
The digest of bytes, as numbers. No program, no statement.
-/
import Derived.Test.YtnpjnegelhaaaaaKit
import Derived.Laws.BitsAllLaws
namespace Go.Proofs.Ytnpjnegelhaaaaa
open Go.RowKit

def xor64 (a b : Int) : Int := ((a.toNat ^^^ b.toNat : Nat) : Int)
def isU64 (a : Int) : Prop := 0 ≤ a ∧ a ≤ 18446744073709551615
theorem xor64_in {a b : Int} (ha : isU64 a) (hb : isU64 b) : isU64 (xor64 a b) := by
  obtain ⟨a1, a2⟩ := ha
  obtain ⟨b1, b2⟩ := hb
  have h := Nat.xor_lt_two_pow (x := a.toNat) (y := b.toNat) (n := 64) (by omega) (by omega)
  unfold xor64 isU64
  omega
theorem xor64_back {a b : Int} (ha : 0 ≤ a) : xor64 (xor64 a b) b = a := by
  unfold xor64
  rw [Int.toNat_natCast, Nat.xor_assoc, Nat.xor_self, Nat.xor_zero]
  omega
theorem xor64_comm (a b : Int) : xor64 a b = xor64 b a := by unfold xor64; rw [Nat.xor_comm]
theorem xor64_inj {a b v : Int} (ha : 0 ≤ a) (hb : 0 ≤ b) (h : xor64 a v = xor64 b v) : a = b := by
  rw [← xor64_back (b := v) ha, h, xor64_back hb]
theorem bits_xor64 {a b : Int} (ha : isU64 a) (hb : isU64 b) : bits .xor .u64 a b = xor64 a b := by
  obtain ⟨a1, a2⟩ := ha
  obtain ⟨b1, b2⟩ := hb
  exact u64_xor a b a1 (by omega) b1 (by omega)

/-- a byte more -/
def fnvS (x v : Int) : Int := xor64 x v * 1099511628211 % 18446744073709551616
theorem fnvS_in (x v : Int) : isU64 (fnvS x v) := by unfold fnvS isU64; omega
theorem mul_inj {a b : Int} (ha : isU64 a) (hb : isU64 b) (h : a * 1099511628211 % 18446744073709551616 = b * 1099511628211 % 18446744073709551616) : a = b := by
  obtain ⟨a1, a2⟩ := ha
  obtain ⟨b1, b2⟩ := hb
  have e : ∀ z : Int, isU64 z → z = (z * 1099511628211 % 18446744073709551616) * 14886173955864302971 % 18446744073709551616 := by
    intro z hz
    obtain ⟨z1, z2⟩ := hz
    rw [Int.mul_emod, Int.emod_emod, ← Int.mul_emod, Int.mul_assoc, Int.mul_emod, show (1099511628211 * 14886173955864302971 : Int) % 18446744073709551616 = 1 by decide, Int.mul_one, Int.emod_emod, Int.emod_eq_of_lt (by omega) (by omega)]
  rw [e a ⟨a1, a2⟩, h, ← e b ⟨b1, b2⟩]
theorem fnvS_inj {a b v : Int} (ha : isU64 a) (hb : isU64 b) (hv : isU64 v) (h : fnvS a v = fnvS b v) : a = b :=
  xor64_inj ha.1 hb.1 (mul_inj (xor64_in ha hv) (xor64_in hb hv) h)
theorem fnvS_inj_v {a u v : Int} (ha : isU64 a) (hu : isU64 u) (hv : isU64 v) (h : fnvS a u = fnvS a v) : u = v := by
  have := mul_inj (xor64_in ha hu) (xor64_in ha hv) h
  rw [xor64_comm a u, xor64_comm a v] at this
  exact xor64_inj hu.1 hv.1 this
/-- the digest of the first k bytes, from x on -/
def fnvK (x : Int) (xs : List Int) : Nat → Int
  | 0 => x
  | k + 1 => fnvS (fnvK x xs k) (xs.getD k 0)
theorem fnvK_in {x : Int} (hx : isU64 x) (xs : List Int) : ∀ k, isU64 (fnvK x xs k)
  | 0 => hx
  | _ + 1 => fnvS_in _ _
theorem fnvK_eq {x : Int} {xs ys : List Int} : ∀ k, (∀ i, i < k → xs.getD i 0 = ys.getD i 0) → fnvK x xs k = fnvK x ys k
  | 0, _ => rfl
  | k + 1, h => by rw [fnvK, fnvK, fnvK_eq k (fun i hi => h i (by omega)), h k (by omega)]
theorem fnvK_back {x : Int} (hx : isU64 x) {xs ys : List Int} (hb : ∀ i, isU64 (xs.getD i 0)) (a : Nat) : ∀ m, (∀ i, a ≤ i → i < a + m → xs.getD i 0 = ys.getD i 0) → fnvK x xs (a + m) = fnvK x ys (a + m) → fnvK x xs a = fnvK x ys a
  | 0, _, e => e
  | m + 1, h, e => by
    refine fnvK_back hx hb a m (fun i h1 h2 => h i h1 (by omega)) ?_
    rw [← Nat.add_assoc, fnvK, fnvK, ← h (a + m) (by omega) (by omega)] at e
    exact fnvS_inj (fnvK_in hx _ _) (fnvK_in hx _ _) (hb _) e
/-- of just one byte else the digest is another one -/
theorem fnv_apart {x : Int} (hx : isU64 x) {xs ys : List Int} {n a : Nat} (ha : a < n) (hb : ∀ i, isU64 (xs.getD i 0)) (hv : isU64 (ys.getD a 0)) (h : ∀ i, i ≠ a → xs.getD i 0 = ys.getD i 0) : fnvK x xs n = fnvK x ys n ↔ xs.getD a 0 = ys.getD a 0 := by
  constructor
  · intro e
    have h1 := fnvK_back hx hb (a + 1) (n - (a + 1)) (fun i h1 _ => h i (by omega)) (by rw [show a + 1 + (n - (a + 1)) = n by omega]; exact e)
    rw [fnvK, fnvK, ← fnvK_eq a (fun i hi => h i (by omega))] at h1
    exact fnvS_inj_v (fnvK_in hx _ _) (hb a) hv h1
  · intro e
    refine fnvK_eq n (fun i _ => ?_)
    by_cases q : i = a
    · rw [q]; exact e
    · exact h i q
/-- piece by piece -/
theorem fnvK_app (x : Int) (xs ys : List Int) : ∀ k, fnvK x (xs ++ ys) (xs.length + k) = fnvK (fnvK x xs xs.length) ys k
  | 0 => by
    show fnvK x (xs ++ ys) xs.length = fnvK x xs xs.length
    exact fnvK_eq _ (fun i hi => by rw [List.getD_eq_getElem?_getD, List.getD_eq_getElem?_getD, List.getElem?_append_left hi])
  | k + 1 => by
    rw [← Nat.add_assoc, fnvK, fnvK, fnvK_app x xs ys k]
    congr 1
    rw [List.getD_eq_getElem?_getD, List.getD_eq_getElem?_getD, List.getElem?_append_right (by omega)]
    congr 2
    omega

end Go.Proofs.Ytnpjnegelhaaaaa
