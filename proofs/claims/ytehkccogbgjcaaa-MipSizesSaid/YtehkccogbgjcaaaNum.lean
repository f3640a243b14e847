/-
Plain numbers of digits of base 32768: sums, differences, products, order. No program, no statement.
-/
import Derived.Lib.Hide
namespace Go.Proofs.Ytehkccogbgjcaaa

/-- the number of the first n digits -/
def V (f : Nat → Nat) : Nat → Nat
  | 0 => 0
  | n + 1 => V f n + f n * 32768 ^ n

theorem V_congr {f g : Nat → Nat} : ∀ {n : Nat}, (∀ k, k < n → f k = g k) → V f n = V g n
  | 0, _ => rfl
  | n + 1, h => by rw [V, V, V_congr (fun k hk => h k (by omega)), h n (by omega)]

theorem V_more {f : Nat → Nat} {m : Nat} : ∀ {n : Nat}, m ≤ n → (∀ k, m ≤ k → k < n → f k = 0) → V f n = V f m
  | 0, h, _ => by have : m = 0 := by omega
                  subst this; rfl
  | n + 1, h, hz => by
    by_cases e : m = n + 1
    · rw [e]
    · rw [V, V_more (n := n) (by omega) (fun k h1 h2 => hz k h1 (by omega)), hz n (by omega) (by omega)]; simp

theorem V_lt {f : Nat → Nat} : ∀ {n : Nat}, (∀ k, k < n → f k < 32768) → V f n < 32768 ^ n
  | 0, _ => by simp [V]
  | n + 1, h => by
    have h1 := V_lt (n := n) (fun k hk => h k (by omega))
    have h2 := h n (by omega)
    have h3 : f n * 32768 ^ n ≤ 32767 * 32768 ^ n := Nat.mul_le_mul_right _ (by omega)
    rw [V, Nat.pow_succ]
    omega

def dgn (l : List Nat) (k : Nat) : Nat := l.getD k 0
def Dig (l : List Nat) : Prop := ∀ k, dgn l k < 32768
def val (l : List Nat) : Nat := V (dgn l) l.length
def Norm (l : List Nat) : Prop := ∀ k, l.length = k + 1 → dgn l k ≠ 0

theorem dgn_out {l : List Nat} {k : Nat} (h : l.length ≤ k) : dgn l k = 0 := by
  simp [dgn, List.getElem?_eq_none h]
theorem dgn_app_lt {l r : List Nat} {k : Nat} (h : k < l.length) : dgn (l ++ r) k = dgn l k := by
  simp [dgn, List.getElem?_append_left h]
theorem dgn_snoc (l : List Nat) (x : Nat) : dgn (l ++ [x]) l.length = x := by
  simp [dgn]
theorem dgn_take_lt {l : List Nat} {n k : Nat} (h : k < n) : dgn (l.take n) k = dgn l k := by
  simp [dgn, h]
theorem dgn_cons_zero (x : Nat) (l : List Nat) : dgn (x :: l) 0 = x := rfl
theorem dgn_cons_succ (x : Nat) (l : List Nat) (k : Nat) : dgn (x :: l) (k + 1) = dgn l k := rfl

theorem val_V {l : List Nat} {n : Nat} (h : l.length ≤ n) : V (dgn l) n = val l := V_more h fun _ hk _ => dgn_out hk
theorem val_nil : val [] = 0 := rfl
theorem val_snoc (l : List Nat) (x : Nat) : val (l ++ [x]) = val l + x * 32768 ^ l.length := by
  unfold val
  rw [List.length_append, List.length_singleton, V, dgn_snoc]
  congr 1
  exact V_congr fun k hk => dgn_app_lt hk
theorem val_lt {l : List Nat} (h : Dig l) : val l < 32768 ^ l.length := V_lt fun k _ => h k
theorem V_cons (x : Nat) (l : List Nat) : ∀ n, V (dgn (x :: l)) (n + 1) = x + 32768 * V (dgn l) n
  | 0 => by simp [V, dgn]
  | n + 1 => by rw [V, V_cons x l n, V, dgn_cons_succ, Nat.mul_add, Nat.pow_succ, ← Nat.mul_assoc, Nat.mul_comm 32768 (dgn l n * _)]; omega
theorem val_cons (x : Nat) (l : List Nat) : val (x :: l) = x + 32768 * val l := V_cons x l l.length

theorem Dig_nil : Dig [] := fun k => by simp [dgn]
theorem Dig_snoc {l : List Nat} {x : Nat} (h : Dig l) (hx : x < 32768) : Dig (l ++ [x]) := fun k => by
  rcases Nat.lt_trichotomy k l.length with h1 | h1 | h1
  · rw [dgn_app_lt h1]; exact h k
  · subst h1; rw [dgn_snoc]; exact hx
  · rw [dgn_out (by simp; omega)]; omega
theorem Dig_take {l : List Nat} (h : Dig l) (n : Nat) : Dig (l.take n) := fun k => by
  by_cases h1 : k < n
  · rw [dgn_take_lt h1]; exact h k
  · rw [dgn_out (by simp; omega)]; omega
theorem Dig_cons {l : List Nat} {x : Nat} (h : Dig l) (hx : x < 32768) : Dig (x :: l) := fun k => by
  cases k with
  | zero => exact hx
  | succ k => exact h k

theorem Norm_nil : Norm [] := fun k h => by simp at h
/-- A number without noughts at its end is at least its highest place. -/
theorem Norm.ge {l : List Nat} (h : Norm l) {k : Nat} (hk : l.length = k + 1) : 32768 ^ k ≤ val l := by
  unfold val
  rw [hk, V]
  have : 1 * 32768 ^ k ≤ dgn l k * 32768 ^ k := Nat.mul_le_mul_right _ (by have := h k hk; omega)
  omega
theorem Norm.zero {l : List Nat} (h : Norm l) : val l = 0 ↔ l.length = 0 := by
  constructor
  · intro hv
    cases hl : l.length with
    | zero => rfl
    | succ k => have := h.ge hl; have : 0 < 32768 ^ k := Nat.pow_pos (by omega); omega
  · intro hl
    have := List.eq_nil_of_length_eq_zero hl
    subst this; rfl
/-- how long a number is -/
theorem Norm.len {l : List Nat} (h : Norm l) {m : Nat} (hv : val l < 32768 ^ m) : l.length ≤ m := by
  cases hl : l.length with
  | zero => omega
  | succ k =>
    have h1 := h.ge hl
    by_cases hm : k + 1 ≤ m
    · exact hm
    · have : 32768 ^ m ≤ 32768 ^ k := Nat.pow_le_pow_right (by omega) (by omega)
      omega

/-- trimming: one nought less at the end -/
theorem val_take_zero {l : List Nat} {k : Nat} (hk : k < l.length) (hz : dgn l k = 0) : val (l.take (k + 1)) = val (l.take k) := by
  have h : l.take (k + 1) = l.take k ++ [l[k]] := List.take_succ_eq_append_getElem hk
  have h0 : l[k] = 0 := by simpa [dgn, List.getElem?_eq_getElem hk] using hz
  rw [h, val_snoc, h0]; simp
theorem Norm_take {l : List Nat} {k : Nat} (hk : k < l.length) (hz : dgn l k ≠ 0) : Norm (l.take (k + 1)) := fun j hj => by
  have : j = k := by simp at hj; omega
  subst this
  rw [dgn_take_lt (by omega)]; exact hz

/-- the order, digit by digit from above -/
theorem V_eq_above {f g : Nat → Nat} {k n : Nat} (hk : k ≤ n) (h : ∀ j, k ≤ j → j < n → f j = g j) : V f n + V g k = V g n + V f k := by
  induction n with
  | zero => have : k = 0 := by omega
            subst this; simp [V]
  | succ n ih =>
    by_cases e : k = n + 1
    · subst e; omega
    · have h1 := ih (by omega) (fun j h1 h2 => h j h1 (by omega))
      rw [V, V, h n (by omega) (by omega)]; omega
theorem V_less {f g : Nat → Nat} {k n : Nat} (hk : k < n) (hf : ∀ j, f j < 32768) (h : ∀ j, k < j → j < n → f j = g j) (hlt : f k < g k) : V f n < V g n := by
  have h1 := V_eq_above (k := k + 1) (n := n) (by omega) (fun j h1 h2 => h j (by omega) h2)
  rw [V, V] at h1
  have h2 := V_lt (f := f) (n := k) (fun j _ => hf j)
  have h3 : (f k + 1) * 32768 ^ k ≤ g k * 32768 ^ k := Nat.mul_le_mul_right _ (by omega)
  rw [Nat.add_mul] at h3
  omega

/-- one step of a sum -/
theorem sum_step {o : List Nat} {f g : Nat → Nat} {k c : Nat} (hl : o.length = k) (h : val o + c * 32768 ^ k = V f k + V g k) :
    val (o ++ [(f k + g k + c) % 32768]) + (f k + g k + c) / 32768 * 32768 ^ (k + 1) = V f (k + 1) + V g (k + 1) := by
  rw [val_snoc, hl, V, V, Nat.pow_succ]
  have h1 : (f k + g k + c) % 32768 * 32768 ^ k + (f k + g k + c) / 32768 * (32768 ^ k * 32768) = (f k + g k + c) * 32768 ^ k := by
    rw [Nat.mul_comm (32768 ^ k) 32768, ← Nat.mul_assoc, ← Nat.add_mul]
    congr 1; omega
  rw [Nat.add_mul, Nat.add_mul] at h1
  omega

/-- one step of a difference: d is the digit, b2 the new borrow -/
theorem rest_step {o : List Nat} {f g : Nat → Nat} {k b d b2 : Nat} (hl : o.length = k) (h : val o + V g k = V f k + b * 32768 ^ k) (hd : d + g k + b = f k + b2 * 32768) :
    val (o ++ [d]) + V g (k + 1) = V f (k + 1) + b2 * 32768 ^ (k + 1) := by
  rw [val_snoc, hl, V, V, Nat.pow_succ]
  have h1 : (d + g k + b) * 32768 ^ k = (f k + b2 * 32768) * 32768 ^ k := by rw [hd]
  rw [Nat.add_mul, Nat.add_mul, Nat.add_mul, Nat.mul_assoc, Nat.mul_comm 32768 (32768 ^ k)] at h1
  omega

/-- at the end of a difference nothing is borrowed -/
theorem rest_end {o : List Nat} {k b x y : Nat} (hb : b ≤ 1) (ho : val o < 32768 ^ k) (h : val o + y = x + b * 32768 ^ k) (hxy : y ≤ x) : val o = x - y := by
  have h3 : b = 0 := by
    by_cases hb1 : b = 1
    · subst hb1; omega
    · omega
  subst h3
  omega

theorem dgn_set {l : List Nat} {k j x : Nat} (hk : k < l.length) : dgn (l.set k x) j = if j = k then x else dgn l j := by
  unfold dgn
  rw [List.getD_eq_getElem?_getD, List.getD_eq_getElem?_getD, List.getElem?_set]
  by_cases e : k = j
  · subst e; simp [hk]
  · simp [e, show ¬ j = k from fun h => e h.symm]
theorem V_set {l : List Nat} {k x : Nat} (hk : k < l.length) : ∀ n, V (dgn (l.set k x)) n + (if k < n then dgn l k * 32768 ^ k else 0) = V (dgn l) n + (if k < n then x * 32768 ^ k else 0)
  | 0 => by simp [V]
  | n + 1 => by
    have ih := V_set (x := x) hk n
    rw [V, V, dgn_set hk]
    rcases Nat.lt_trichotomy k n with h | h | h
    · rw [if_pos h] at ih
      rw [if_neg (by omega), if_pos (by omega), if_pos (by omega)]
      rw [if_pos h] at ih
      omega
    · subst h
      rw [if_neg (by omega), if_neg (by omega)] at ih
      rw [if_pos rfl, if_pos (by omega), if_pos (by omega)]
      omega
    · rw [if_neg (by omega), if_neg (by omega)] at ih
      rw [if_neg (by omega), if_neg (by omega), if_neg (by omega)]
      omega
theorem val_set {l : List Nat} {k x : Nat} (hk : k < l.length) : val (l.set k x) + dgn l k * 32768 ^ k = val l + x * 32768 ^ k := by
  have h := V_set (x := x) hk l.length
  rw [if_pos hk, if_pos hk] at h
  unfold val
  rw [List.length_set]
  exact h
theorem Dig_set {l : List Nat} {k x : Nat} (h : Dig l) (hk : k < l.length) (hx : x < 32768) : Dig (l.set k x) := fun j => by
  rw [dgn_set hk]
  split
  · exact hx
  · exact h j

/-- one step of a product's row: the digit at i + k becomes s % 32768, s / 32768 is carried -/
theorem mul_step {o : List Nat} {i k c d : Nat} {x : Nat} {g : Nat → Nat} {v0 : Nat} (hi : i + k < o.length)
    (h : val o + c * 32768 ^ (i + k) = v0 + d * V g k * 32768 ^ i) (hx : x = dgn o (i + k) + d * g k + c) :
    val (o.set (i + k) (x % 32768)) + x / 32768 * 32768 ^ (i + (k + 1)) = v0 + d * V g (k + 1) * 32768 ^ i := by
  have h1 := val_set (x := x % 32768) hi
  have h2 : x % 32768 * 32768 ^ (i + k) + x / 32768 * (32768 ^ (i + k) * 32768) = x * 32768 ^ (i + k) := by
    rw [Nat.mul_comm (32768 ^ (i + k)) 32768, ← Nat.mul_assoc, ← Nat.add_mul]
    congr 1; omega
  have h3 : x * 32768 ^ (i + k) = dgn o (i + k) * 32768 ^ (i + k) + d * g k * 32768 ^ (i + k) + c * 32768 ^ (i + k) := by rw [hx, Nat.add_mul, Nat.add_mul]
  have h4 : d * V g (k + 1) * 32768 ^ i = d * V g k * 32768 ^ i + d * g k * 32768 ^ (i + k) := by
    rw [V, Nat.mul_add, Nat.add_mul, Nat.pow_add]
    congr 1
    rw [Nat.mul_comm (32768 ^ i), ← Nat.mul_assoc, ← Nat.mul_assoc]
  rw [h4, show i + (k + 1) = (i + k) + 1 from rfl, Nat.pow_succ]
  omega
theorem mul_carry {x o d g c : Nat} (ho : o < 32768) (hd : d < 32768) (hg : g < 32768) (hc : c < 32768) (hx : x = o + d * g + c) : x / 32768 < 32768 := by
  have : d * g ≤ 32767 * 32767 := Nat.mul_le_mul (by omega) (by omega)
  omega
/-- the end of a product's row -/
theorem mul_end {o : List Nat} {i n c d y v0 : Nat} (hi : i + n < o.length) (hz : dgn o (i + n) = 0) (h : val o + c * 32768 ^ (i + n) = v0 + d * y * 32768 ^ i) :
    val (o.set (i + n) c) = v0 + d * y * 32768 ^ i := by
  have h1 := val_set (x := c) hi
  rw [hz] at h1
  omega

theorem norm_unique : ∀ {a b : List Nat}, Dig a → Dig b → Norm a → Norm b → val a = val b → a = b
  | [], b, _, _, _, hb, h => by
    have := (hb.zero).1 (by rw [← h]; rfl)
    exact (List.eq_nil_of_length_eq_zero this).symm
  | x :: a, [], _, _, ha, _, h => by
    have := (ha.zero).1 (by rw [h]; rfl)
    simp at this
  | x :: a, y :: b, da, db, ha, hb, h => by
    rw [val_cons, val_cons] at h
    have hx := da 0
    have hy := db 0
    rw [dgn_cons_zero] at hx hy
    have e : x = y := by omega
    subst e
    have := norm_unique (a := a) (b := b) (fun k => da (k + 1)) (fun k => db (k + 1)) (fun k hk => ha (k + 1) (by simp [hk])) (fun k hk => hb (k + 1) (by simp [hk])) (by omega)
    rw [this]

end Go.Proofs.Ytehkccogbgjcaaa
