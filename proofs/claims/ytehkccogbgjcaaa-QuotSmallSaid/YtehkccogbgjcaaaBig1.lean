/-
Contracts of the reference's digits: digit, trim, less. No statement is proved here.
-/
import Derived.Test.YtehkccogbgjcaaaRows
import Derived.Test.YtehkccogbgjcaaaWords
import Derived.Test.YtehkccogbgjcaaaKit
import Derived.Test.YtehkccogbgjcaaaNum
import Derived.WalkKit
import Derived.Lib.Hide
import Derived.WalkSpells
import Derived.WalkLawsBesides
namespace Go.Proofs.Ytehkccogbgjcaaa
open Go.RowKit

def dv (l : List Nat) : List Value := l.map fun (d : Nat) => Value.int .i64 (d : Int)
def dg (l : List Nat) (i : Int) : Nat := if 0 ≤ i then dgn l i.toNat else 0
/-- the block that a slice lies in is a row of int -/
def IntBlk (w : World) (A : Option Addr) : Prop := ∀ ad, A = some ad → ∃ cur fr, w.heap[ad.block]? = some (.cells cur 3 fr)
def DW (w : World) (A : Option Addr) (n c : Nat) (l : List Nat) : Prop := l.length = n ∧ n ≤ c ∧ c ≤ maxLen ∧ Reads w w.heap.size 1 A n (dv l) ∧ IntBlk w A

theorem DW.cell {w : World} {A : Option Addr} {n c : Nat} {l : List Nat} (h : DW w A n c l) {k : Nat} (hk : k < n) :
    ∃ ad, A = some ad ∧ ad.block < w.heap.size ∧ w.cell? (ad.add k) = some (.int .i64 (dgn l k : Nat)) := by
  obtain ⟨h1, _, _, h4, _⟩ := h
  obtain ⟨ad, u, e1, e2, e3, e4⟩ := h4.at_ hk
  refine ⟨ad, e1, e2, ?_⟩
  rw [e4, ← e3]
  simp [dv, dgn, List.getElem?_eq_getElem (show k < l.length by omega)]


theorem dg_nat (l : List Nat) (k : Nat) : dg l (k : Int) = dgn l k := by simp [dg]

set_option maxHeartbeats 400000 in
theorem digit_any (A : Option Addr) (n c : Nat) (l : List Nat) (i : Int) (w : World) (h : DW w A n c l) :
    Calls Try.prog 76 #[.slice A n c, .int .i64 i] w fun e w' => e = .returned (.int .i64 (dg l i)) ∧ w = w' := by
  by_cases h0 : 0 ≤ i
  · obtain ⟨k, rfl⟩ := Int.eq_ofNat_of_zero_le h0
    by_cases h1 : k < n
    · obtain ⟨ad, rfl, hb, hc⟩ := h.cell (k := k) h1
      clear h
      go_enter Try.func76, Try.ntmps76
      go_wp2
      go_ret
      exact ⟨by rw [dg_nat]; rfl, rfl⟩
    · have h2 : dg l (k : Int) = 0 := by rw [dg_nat]; exact dgn_out (by have := h.1; omega)
      have H2 := Lib.hid h2
      clear h h2
      go_enter Try.func76, Try.ntmps76
      go_wp2
      go_ret
      exact ⟨by rw [H2.out]; rfl, rfl⟩
  · have h2 : dg l i = 0 := by simp [dg, h0]
    have H2 := Lib.hid h2
    clear h h2
    go_enter Try.func76, Try.ntmps76
    go_wp2
    go_ret
    exact ⟨by rw [H2.out]; rfl, rfl⟩


theorem take_last {l : List Nat} {k : Nat} (h : 0 < k ∧ k ≤ l.length) : (dgn l (k - 1) = 0 → val (l.take k) = val (l.take (k - 1))) ∧ (dgn l (k - 1) ≠ 0 → Norm (l.take k)) := by
  obtain ⟨j, rfl⟩ : ∃ j, k = j + 1 := ⟨k - 1, by omega⟩
  exact ⟨fun hz => val_take_zero (by omega) hz, fun hz => Norm_take (by omega) hz⟩

def TrimPost (w : World) (A : Option Addr) (c : Nat) (l : List Nat) (e : Ending) (w' : World) : Prop :=
  ∃ k, e = .returned (.slice A k c) ∧ k ≤ l.length ∧ Norm (l.take k) ∧ val (l.take k) = val l ∧ w = w'

set_option maxHeartbeats 400000 in
theorem trim_any (A : Option Addr) (n c : Nat) (l : List Nat) (w : World) (h : DW w A n c l) :
    Calls Try.prog 77 #[.slice A n c] w (TrimPost w A c l) := by
  have hm : n ≤ c := h.2.1
  have hm2 : c ≤ maxLen := h.2.2.1
  have hlen : n ≤ l.length := by rw [h.1]; omega
  unfold maxLen at hm2
  have Hd := hide h
  clear h
  go_enter Try.func77, Try.ntmps77
  go_wp2
  go_loop [3] (fun v => ∃ k : Nat, k ≤ n ∧ v = .int .i64 k ∧ val (l.take k) = val l) (fun v => (intOf v).toNat)
  case atStart => exact ⟨n, Nat.le_refl _, rfl, by rw [List.take_of_length_le (by rw [Hd.out.1]; omega)]⟩
  case round =>
    obtain ⟨k, hk, rfl, hv⟩ := hrel
    have Hv := Lib.hid hv
    clear hv
    by_cases hk0 : 0 < k
    · obtain ⟨ad, hA, hb, hc⟩ := Hd.out.cell (k := k - 1) (by omega)
      subst hA
      have ht := take_last (l := l) (k := k) (by omega)
      by_cases hz : dgn l (k - 1) = 0
      · have HT := Lib.hid (ht.1 hz)
        clear ht
        have hz2 : ((dgn l (k - 1) : Nat) : Int) = 0 := by omega
        clear hz
        rw [hz2] at hc
        clear hz2
        go_wp2
        go_round
        case rel => exact ⟨k - 1, by omega, by go_num, by rw [← HT.out]; exact Hv.out⟩
        case measure => simp [intOf]; omega
      · have HT := Lib.hid (ht.2 hz)
        clear ht
        have hz2 : (((dgn l (k - 1) : Nat) : Int) == 0) = false := by rw [beq_eq_false_iff_ne]; omega
        go_wp2
        go_ret
        exact ⟨k, rfl, by omega, HT.out, Hv.out, rfl⟩
    · go_wp2
      go_ret
      have : k = 0 := by omega
      subst this
      exact ⟨0, rfl, by omega, by simpa using Norm_nil, Hv.out, rfl⟩

def cmpN (a b : Nat) : Int := if a < b then -1 else if b < a then 1 else 0
theorem cmpN_lt {a b : Nat} (h : a < b) : cmpN a b = -1 := by simp [cmpN, h]
theorem cmpN_gt {a b : Nat} (h : b < a) : cmpN a b = 1 := by simp [cmpN, h, show ¬ a < b by omega]
theorem cmpN_eq {a b : Nat} (h : a = b) : cmpN a b = 0 := by subst h; simp [cmpN]

theorem less_lt {la lb : List Nat} {k : Nat} (ha : Dig la) (hab : ∀ j, k < j → dgn la j = dgn lb j) (h : dgn la k < dgn lb k) : val la < val lb := by
  have := V_less (f := dgn la) (g := dgn lb) (k := k) (n := la.length + lb.length + k + 1) (by omega) ha (fun j h1 _ => hab j h1) h
  rwa [val_V (by omega), val_V (by omega)] at this
theorem less_eq {la lb : List Nat} (hab : ∀ j, dgn la j = dgn lb j) : val la = val lb := by
  have := V_congr (f := dgn la) (g := dgn lb) (n := la.length + lb.length) (fun j _ => hab j)
  rwa [val_V (by omega), val_V (by omega)] at this

def Above (la lb : List Nat) (k : Nat) : Prop := ∀ j, k ≤ j → dgn la j = dgn lb j
theorem Above.down {la lb : List Nat} {k : Nat} (h : Above la lb (k + 1)) (e : dgn la k = dgn lb k) : Above la lb k := fun j hj => by
  by_cases h2 : j = k
  · subst h2; exact e
  · exact h j (by omega)

set_option maxHeartbeats 400000 in
theorem less_any (A A' : Option Addr) (n n' c c' : Nat) (la lb : List Nat) (w : World) (ha : DW w A n c la) (hb : DW w A' n' c' lb) (da : Dig la) (db : Dig lb) :
    Calls Try.prog 78 #[.slice A n c, .slice A' n' c'] w fun e w' => e = .returned (.int .i64 (cmpN (val la) (val lb))) ∧ w = w' := by
  have hm1 : n ≤ maxLen := Nat.le_trans ha.2.1 ha.2.2.1
  have hm2 : n' ≤ maxLen := Nat.le_trans hb.2.1 hb.2.2.1
  have hn1 : la.length ≤ n := by rw [ha.1]; omega
  have hn2 : lb.length ≤ n' := by rw [hb.1]; omega
  unfold maxLen at hm1 hm2
  have Da := hide da
  have Db := hide db
  clear da db
  have hs : n + n' ≤ 18446744073709551614 := by omega
  go_enter Try.func78, Try.ntmps78
  go_wp2
  all_goals
    go_loop [5] (fun v => ∃ k : Nat, k ≤ 9223372036854775807 ∧ v = .int .i64 ((k : Int) - 1) ∧ Above la lb k) (fun v => (intOf v + 1).toNat)
    case atStart => first | exact ⟨n, by omega, rfl, fun j hj => by rw [dgn_out (by omega), dgn_out (by omega)]⟩ | exact ⟨n', by omega, rfl, fun j hj => by rw [dgn_out (by omega), dgn_out (by omega)]⟩
    case round =>
      obtain ⟨k, hk, rfl, hab⟩ := hrel
      have Hab := hide hab
      clear hab
      by_cases hk0 : 0 < k
      · obtain ⟨j, rfl⟩ : ∃ j, k = j + 1 := ⟨k - 1, by omega⟩
        rw [show ((j + 1 : Nat) : Int) - 1 = (j : Int) by omega]
        have e1 := dg_nat la j
        have e2 := dg_nat lb j
        by_cases hlt : dgn la j < dgn lb j
        · go_wp2_with (go_at_call 76; refine (digit_any _ _ _ _ _ _ (by assumption)).mono ?_; rintro e w' ⟨rfl, rfl⟩)
          go_ret
          exact ⟨by rw [cmpN_lt (less_lt Da.out Hab.out hlt)]; rfl, rfl⟩
        · by_cases hgt : dgn lb j < dgn la j
          · go_wp2_with (go_at_call 76; refine (digit_any _ _ _ _ _ _ (by assumption)).mono ?_; rintro e w' ⟨rfl, rfl⟩)
            go_ret
            exact ⟨by rw [cmpN_gt (less_lt Db.out (fun i hi => (Hab.out i hi).symm) hgt)]; rfl, rfl⟩
          · have HAb := hide (Hab.out.down (by omega))
            go_wp2_with (go_at_call 76; refine (digit_any _ _ _ _ _ _ (by assumption)).mono ?_; rintro e w' ⟨rfl, rfl⟩)
            go_round
            case rel => exact ⟨j, by omega, rfl, HAb.out⟩
            case measure => simp [intOf]
      · have hk1 : k = 0 := by omega
        subst hk1
        go_wp2
        go_ret
        exact ⟨by rw [cmpN_eq (less_eq fun j => Hab.out j (by omega))]; rfl, rfl⟩

end Go.Proofs.Ytehkccogbgjcaaa
