/-
Contracts of the reference: unsigned, short. No statement is proved here.
-/
import Derived.Test.YtehkccogbgjcaaaBig7
import Derived.Test.YtehkccogbgjcaaaFlo0
namespace Go.Proofs.Ytehkccogbgjcaaa
open Go.RowKit

def UnsigRel (l : List Nat) (n : Nat) (x i : Value) : Prop := ∃ k X : Nat, k ≤ n ∧ i = .int .i64 ((k : Int) - 1) ∧ x = .int .u64 (X : Int) ∧ X = tp (dgn l) n (n - k)

theorem unsig_step {l : List Nat} {m n X v : Nat} (hm : m + 1 ≤ n) (hn : l.length = n) (hX : X = tp (dgn l) n (n - (m + 1))) (hv : val l = v) : X * 32768 + dgn l m = tp (dgn l) n (n - m) ∧ X * 32768 + dgn l m ≤ v := by
  have e : n - m = n - (m + 1) + 1 := by omega
  have h1 : X * 32768 + dgn l m = tp (dgn l) n (n - m) := by
    rw [e, tp, hX, show n - 1 - (n - (m + 1)) = m by omega]
  refine ⟨h1, ?_⟩
  have h2 := tp_le (dgn l) n (n - m) (by omega)
  have h3 : val l = V (dgn l) n := (val_V (by omega)).symm
  have h4 : 1 ≤ 32768 ^ (n - (n - m)) := Nat.pow_pos (by omega)
  have h5 : tp (dgn l) n (n - m) * 1 ≤ tp (dgn l) n (n - m) * 32768 ^ (n - (n - m)) := Nat.mul_le_mul_left _ h4
  rw [h1]; omega

set_option maxHeartbeats 1000000 in
set_option maxRecDepth 100000 in
theorem unsigned_any (N : Nat) (s : Bool) (A : Option Addr) (n c v : Nat) (w : World) (h : NW w N A n c v) (hv : v < 18446744073709551616) :
    Calls Try.prog 94 #[.agg #[.bool s, .slice A n c]] w (Says w (.int .u64 v)) := by
  obtain ⟨l, hD, hdig, hnorm, hval, hN⟩ := h
  have hm1 : n ≤ maxLen := Nat.le_trans hD.2.1 hD.2.2.1
  unfold maxLen at hm1
  have HL := Lib.hid hD.1
  have HD := hide (hD.below (below_alloc w (.cells #[.bool s, .slice A n c] 24)))
  have HV := Lib.hid hval
  have Hdig := hide hdig
  have Hvb := hide hv
  have H0 := hide (below_alloc w (.cells #[.bool s, .slice A n c] 24))
  clear hD hdig hnorm hval hv
  go_enter Try.func94, Try.ntmps94
  go_wp2_with fail
  go_loop [3, 4] (fun x i => UnsigRel l n x i) (fun _ i => (intOf i + 1).toNat)
  case atStart => exact ⟨n, 0, by omega, rfl, rfl, by rw [Nat.sub_self]; rfl⟩
  case round =>
    obtain ⟨k, X, hk, rfl, rfl, hX⟩ := hrel
    by_cases h0 : 0 < k
    · obtain ⟨m, rfl⟩ : ∃ m, k = m + 1 := ⟨k - 1, by omega⟩
      rw [show ((m + 1 : Nat) : Int) - 1 = (m : Int) by omega]
      obtain ⟨ad, hA, hb, hc⟩ := HD.out.cell (k := m) (by omega)
      subst hA
      have hst := unsig_step hk HL.out hX HV.out
      have hd : dgn l m ≤ 32767 := by have := Hdig.out m; omega
      have hb1 : (X : Int) * 32768 + (dgn l m : Int) ≤ 18446744073709551615 := by have := hst.2; have := Hvb.out; omega
      have hX2 : (X : Int) ≤ 562949953421311 := by omega
      have Hst := hide hst
      clear hst hX
      go_wp2_with fail
      go_round
      case rel => exact ⟨m, X * 32768 + dgn l m, by omega, rfl, by go_num, Hst.out.1⟩
      case measure => simp [intOf]
    · have hk0 : k = 0 := by omega
      subst hk0
      have hXv : X = v := by rw [hX, ← HV.out, Nat.sub_zero, ← HL.out]; exact tp_all l
      subst hXv
      clear hX
      go_wp2_with fail
      go_ret
      exact ⟨rfl, H0.out⟩

theorem run_digits (s : Bool) (A : Option Addr) (n c : Nat) (w : World) : (Instr.field 24 (.agg #[.bool s, .slice A n c]) 1).run Try.prog w = .ok (.slice A n c) w := by kernel_rfl
theorem NW.lt {w : World} {N : Nat} {A : Option Addr} {n c v : Nat} (h : NW w N A n c v) : v < 32768 ^ n := by
  obtain ⟨l, h1, h2, _, rfl, _⟩ := h
  have := val_lt h2
  rw [h1.1] at this; exact this
theorem NW.lt4 {w : World} {N : Nat} {A : Option Addr} {n c v : Nat} (h : NW w N A n c v) (hn : n ≤ 4) : v < 1152921504606846976 := by
  have h1 := h.lt
  have h2 : 32768 ^ n ≤ 32768 ^ 4 := Nat.pow_le_pow_right (by omega) hn
  have h3 : (32768 : Nat) ^ 4 = 1152921504606846976 := by decide
  omega
/-- a row of one digit, just made -/
theorem NW.one (w : World) (x : Nat) (hx : x < 32768) (h0 : 0 < x) : NW (w.alloc (.cells #[.int .i64 (x : Int)] 3)) 1 (some ⟨w.heap.size, 0, none⟩) 1 1 x := by
  have hr : Row (w.alloc (.cells #[.int .i64 (x : Int)] 3)) w.heap.size [x] := heap_alloc_new w _
  refine ⟨[x], DW.of_row hr rfl (by unfold maxLen; omega), Dig_snoc Dig_nil hx, fun k hk => ?_, by rw [val_cons, val_nil]; omega, Nat.le_refl _⟩
  have : k = 0 := by simp at hk; omega
  subst this
  show x ≠ 0
  omega

theorem fdiv_cases {x y : Nat} (hy : 0 < y) (s s1 : Bool) :
    (s = s1 → Int.fdiv (if s = true then -(x : Int) else x) (if s1 = true then -(y : Int) else y) = ((x / y : Nat) : Int)) ∧
    (s ≠ s1 → x % y = 0 → Int.fdiv (if s = true then -(x : Int) else x) (if s1 = true then -(y : Int) else y) = -((x / y : Nat) : Int)) ∧
    (s ≠ s1 → x % y ≠ 0 → Int.fdiv (if s = true then -(x : Int) else x) (if s1 = true then -(y : Int) else y) = -((x / y + 1 : Nat) : Int)) := by
  have h1 := Nat.div_add_mod x y
  have h2 := Nat.mod_lt x hy
  generalize hq : x / y = q at *
  generalize hr : x % y = r at *
  have h3 : (x : Int) = (y : Int) * (q : Int) + (r : Int) := by rw [← h1]; simp
  refine ⟨fun h => ?_, fun h hz => ?_, fun h hz => ?_⟩
  · subst h
    cases s
    · exact floor_unique (r := r) (by simp; rw [h3, Int.mul_comm]) (by simp; omega)
    · exact floor_unique (r := -(r : Int)) (by simp; rw [h3, Int.mul_neg, Int.mul_comm]; omega) (by simp; omega)
  · subst hz
    cases s <;> cases s1 <;> simp at h
    · exact floor_unique (r := 0) (by simp; rw [h3, Int.neg_mul_neg, Int.mul_comm]; simp) (by simp; omega)
    · exact floor_unique (r := 0) (by simp; rw [h3, Int.neg_mul, Int.mul_comm]; simp) (by simp; omega)
  · cases s <;> cases s1 <;> simp at h
    · exact floor_unique (r := (r : Int) - y) (by simp; rw [h3, Int.neg_mul_neg, Int.add_mul, Int.mul_comm]; omega) (by simp; omega)
    · exact floor_unique (r := (y : Int) - r) (by simp; rw [h3, Int.neg_mul, Int.add_mul, Int.mul_comm]; omega) (by simp; omega)

set_option maxHeartbeats 600000 in
set_option maxRecDepth 100000 in
theorem short_same (N : Nat) (s s1 : Bool) (A A' : Option Addr) (n n' c c' x y : Nat) (w : World) (h : NW w N A n c x) (h' : NW w N A' n' c' y) (hn : n ≤ 4) (hn' : n' ≤ 4) (hy : 0 < y) (hss : (s == s1) = true) :
    Calls Try.prog 75 #[.agg #[.bool s, .slice A n c], .agg #[.bool s1, .slice A' n' c']] w (MadeB w 6 (((x / y : Nat) : Int))) := by
  have hx := h.lt4 hn
  have hyb := h'.lt4 hn'
  have H := hide fun w' (hb : Bel (Three w s s1 A A' n n' c c') w') => unsigned_any N s A n c x w' (h.below ((Three.below _ _ _ _ _ _ _ _ _).trans (Below.mono hb (by rw [Three.size]; omega)))) (by omega)
  have H' := hide fun w' (hb : Bel (Three w s s1 A A' n n' c c') w') => unsigned_any N s1 A' n' c' y w' (h'.below ((Three.below _ _ _ _ _ _ _ _ _).trans (Below.mono hb (by rw [Three.size]; omega)))) (by omega)
  have HS := hide (Three.cells w s s1 A A' n n' c c')
  have HX := hide (Three.box w s s1 A A' n n' c c')
  have HB := hide fun w' (hb : Bel (Three w s s1 A A' n n' c c') w') => (Three.below _ _ _ _ _ _ _ _ _).trans (Below.mono hb (by rw [Three.size]; omega))
  have hq : x / y ≤ x := Nat.div_le_self _ _
  have hr : x % y ≤ x := Nat.mod_le _ _
  obtain ⟨q, eq⟩ : ∃ q, x / y = q := ⟨_, rfl⟩
  obtain ⟨r, er⟩ : ∃ r, x % y = r := ⟨_, rfl⟩
  have HU := hide (fun w => Uns_any q w (by omega))
  have e1 : IntKind.u64.wrap ((x : Int) / (y : Int)) = (q : Int) := by rw [← Int.natCast_ediv, eq]; exact (by rw [IntKind.wrap_u64]; omega)
  have e2 : (x : Int) % (y : Int) = (r : Int) := by rw [← Int.natCast_emod, er]
  rw [eq] at *
  have hdg := run_digits
  clear h h' hn hn' hx hyb hq hr eq er
  go_enter Try.func75, Try.ntmps75
  go_wp2_with fail
  refine (H.out _ (Three.start _ _ _ _ _ _ _ _ _)).mono ?_
  rintro e w1 ⟨rfl, hb1⟩
  have hk1 : Bel (Three w s s1 A A' n n' c c') w1 := Bel.trans (Three.start _ _ _ _ _ _ _ _ _) hb1
  obtain ⟨_, a1, a2, a3, a4, a5, a6, a7, a8⟩ := HS.out _ hk1
  clear hb1
  go_wp2_with fail
  refine (H'.out _ hk1).mono ?_
  rintro e w2 ⟨rfl, hb2⟩
  have hk2 : Bel (Three w s s1 A A' n n' c c') w2 := Bel.trans hk1 hb2
  obtain ⟨_, b1, b2, b3, b4, b5, b6, b7, b8⟩ := HS.out _ hk2
  clear hb2 a1 a2 a3 a4 a5 a6 a7 a8
  go_wp2_with fail
  refine (HU.out _).mono ?_
  rintro e w3 ⟨s3, A3, n3, c3, rfl, hB3, hb3⟩
  have hk3 : Bel (Three w s s1 A A' n n' c c') w3 := Bel.trans hk2 hb3
  obtain ⟨_, d1, d2, d3, d4, d5, d6, d7, d8⟩ := HS.out _ hk3
  obtain ⟨v3, hN3, _, hv3⟩ := hB3
  have hvq : v3 = q := by cases s3 <;> simp at hv3 <;> omega
  subst hvq
  have HN3 := hide hN3
  clear hb3 b1 b2 b3 b4 b5 b6 b7 b8 hN3 hv3
  go_wp2_with fail
  refine (made_any 5 false _ _ _ _ _ HN3.out).mono ?_
  rintro e w4 ⟨s4, A4, n4, c4, rfl, hB4, hb4⟩
  have hk4 : Bel (Three w s s1 A A' n n' c c') w4 := Bel.trans hk3 hb4
  obtain ⟨_, g1, g2, g3, g4, g5, g6, g7, g8⟩ := HS.out _ hk4
  have HB4 := hide (BV.more hB4 (show 5 ≤ 6 by omega))
  have HK4 := hide hk4
  clear hb4 hB4 hk4
  go_wp2_with fail
  refine bodyPost_ret (v := .agg #[.bool s4, .slice A4 n4 c4]) (by simp [results, Try.results75, go_sem, g5, g6]) rfl ?_
  have hfin := HB4.out
  rw [if_neg (by decide)] at hfin
  exact MadeB.fin (HB.out _ HK4.out) (by omega) (HX.out _ HK4.out) hfin _ _

set_option maxHeartbeats 600000 in
set_option maxRecDepth 100000 in
theorem short_even (N : Nat) (s s1 : Bool) (A A' : Option Addr) (n n' c c' x y : Nat) (w : World) (h : NW w N A n c x) (h' : NW w N A' n' c' y) (hn : n ≤ 4) (hn' : n' ≤ 4) (hy : 0 < y) (hss : (s == s1) = false) (hrem : x % y = 0) :
    Calls Try.prog 75 #[.agg #[.bool s, .slice A n c], .agg #[.bool s1, .slice A' n' c']] w (MadeB w 6 (-((x / y : Nat) : Int))) := by
  have hx := h.lt4 hn
  have hyb := h'.lt4 hn'
  have H := hide fun w' (hb : Bel (Three w s s1 A A' n n' c c') w') => unsigned_any N s A n c x w' (h.below ((Three.below _ _ _ _ _ _ _ _ _).trans (Below.mono hb (by rw [Three.size]; omega)))) (by omega)
  have H' := hide fun w' (hb : Bel (Three w s s1 A A' n n' c c') w') => unsigned_any N s1 A' n' c' y w' (h'.below ((Three.below _ _ _ _ _ _ _ _ _).trans (Below.mono hb (by rw [Three.size]; omega)))) (by omega)
  have HS := hide (Three.cells w s s1 A A' n n' c c')
  have HX := hide (Three.box w s s1 A A' n n' c c')
  have HB := hide fun w' (hb : Bel (Three w s s1 A A' n n' c c') w') => (Three.below _ _ _ _ _ _ _ _ _).trans (Below.mono hb (by rw [Three.size]; omega))
  have hq : x / y ≤ x := Nat.div_le_self _ _
  have hr : x % y ≤ x := Nat.mod_le _ _
  obtain ⟨q, eq⟩ : ∃ q, x / y = q := ⟨_, rfl⟩
  obtain ⟨r, er⟩ : ∃ r, x % y = r := ⟨_, rfl⟩
  have HU := hide (fun w => Uns_any q w (by omega))
  have e1 : IntKind.u64.wrap ((x : Int) / (y : Int)) = (q : Int) := by rw [← Int.natCast_ediv, eq]; exact (by rw [IntKind.wrap_u64]; omega)
  have e2 : (x : Int) % (y : Int) = (r : Int) := by rw [← Int.natCast_emod, er]
  rw [eq] at *
  rw [er] at hrem
  have hrb : ((r : Int) == 0) = true := by rw [beq_iff_eq]; omega
  have hdg := run_digits
  clear h h' hn hn' hx hyb hq hr eq er hrem
  go_enter Try.func75, Try.ntmps75
  go_wp2_with fail
  refine (H.out _ (Three.start _ _ _ _ _ _ _ _ _)).mono ?_
  rintro e w1 ⟨rfl, hb1⟩
  have hk1 : Bel (Three w s s1 A A' n n' c c') w1 := Bel.trans (Three.start _ _ _ _ _ _ _ _ _) hb1
  obtain ⟨_, a1, a2, a3, a4, a5, a6, a7, a8⟩ := HS.out _ hk1
  clear hb1
  go_wp2_with fail
  refine (H'.out _ hk1).mono ?_
  rintro e w2 ⟨rfl, hb2⟩
  have hk2 : Bel (Three w s s1 A A' n n' c c') w2 := Bel.trans hk1 hb2
  obtain ⟨_, b1, b2, b3, b4, b5, b6, b7, b8⟩ := HS.out _ hk2
  clear hb2 a1 a2 a3 a4 a5 a6 a7 a8
  go_wp2_with fail
  refine (HU.out _).mono ?_
  rintro e w3 ⟨s3, A3, n3, c3, rfl, hB3, hb3⟩
  have hk3 : Bel (Three w s s1 A A' n n' c c') w3 := Bel.trans hk2 hb3
  obtain ⟨_, d1, d2, d3, d4, d5, d6, d7, d8⟩ := HS.out _ hk3
  obtain ⟨v3, hN3, _, hv3⟩ := hB3
  have hvq : v3 = q := by cases s3 <;> simp at hv3 <;> omega
  subst hvq
  have HN3 := hide hN3
  clear hb3 b1 b2 b3 b4 b5 b6 b7 b8 hN3 hv3
  go_wp2_with fail
  refine (made_any 5 true _ _ _ _ _ HN3.out).mono ?_
  rintro e w4 ⟨s4, A4, n4, c4, rfl, hB4, hb4⟩
  have hk4 : Bel (Three w s s1 A A' n n' c c') w4 := Bel.trans hk3 hb4
  obtain ⟨_, g1, g2, g3, g4, g5, g6, g7, g8⟩ := HS.out _ hk4
  have HB4 := hide (BV.more hB4 (show 5 ≤ 6 by omega))
  have HK4 := hide hk4
  clear hb4 hB4 hk4
  go_wp2_with fail
  refine bodyPost_ret (v := .agg #[.bool s4, .slice A4 n4 c4]) (by simp [results, Try.results75, go_sem, g5, g6]) rfl ?_
  have hfin := HB4.out
  rw [if_pos trivial] at hfin
  exact MadeB.fin (HB.out _ HK4.out) (by omega) (HX.out _ HK4.out) hfin _ _

set_option maxHeartbeats 600000 in
set_option maxRecDepth 100000 in
theorem short_odd (N : Nat) (s s1 : Bool) (A A' : Option Addr) (n n' c c' x y : Nat) (w : World) (h : NW w N A n c x) (h' : NW w N A' n' c' y) (hn : n ≤ 4) (hn' : n' ≤ 4) (hy : 0 < y) (hss : (s == s1) = false) (hrem : x % y ≠ 0) :
    Calls Try.prog 75 #[.agg #[.bool s, .slice A n c], .agg #[.bool s1, .slice A' n' c']] w (MadeB w 6 (-((x / y + 1 : Nat) : Int))) := by
  have hx := h.lt4 hn
  have hyb := h'.lt4 hn'
  have H := hide fun w' (hb : Bel (Three w s s1 A A' n n' c c') w') => unsigned_any N s A n c x w' (h.below ((Three.below _ _ _ _ _ _ _ _ _).trans (Below.mono hb (by rw [Three.size]; omega)))) (by omega)
  have H' := hide fun w' (hb : Bel (Three w s s1 A A' n n' c c') w') => unsigned_any N s1 A' n' c' y w' (h'.below ((Three.below _ _ _ _ _ _ _ _ _).trans (Below.mono hb (by rw [Three.size]; omega)))) (by omega)
  have HS := hide (Three.cells w s s1 A A' n n' c c')
  have HX := hide (Three.box w s s1 A A' n n' c c')
  have HB := hide fun w' (hb : Bel (Three w s s1 A A' n n' c c') w') => (Three.below _ _ _ _ _ _ _ _ _).trans (Below.mono hb (by rw [Three.size]; omega))
  have hq : x / y ≤ x := Nat.div_le_self _ _
  have hr : x % y ≤ x := Nat.mod_le _ _
  obtain ⟨q, eq⟩ : ∃ q, x / y = q := ⟨_, rfl⟩
  obtain ⟨r, er⟩ : ∃ r, x % y = r := ⟨_, rfl⟩
  have HU := hide (fun w => Uns_any q w (by omega))
  have e1 : IntKind.u64.wrap ((x : Int) / (y : Int)) = (q : Int) := by rw [← Int.natCast_ediv, eq]; exact (by rw [IntKind.wrap_u64]; omega)
  have e2 : (x : Int) % (y : Int) = (r : Int) := by rw [← Int.natCast_emod, er]
  rw [eq] at *
  rw [er] at hrem
  have hrb : ((r : Int) == 0) = false := by rw [beq_eq_false_iff_ne]; omega
  have hdg := run_digits
  clear h h' hn hn' hx hyb hq hr eq er hrem
  go_enter Try.func75, Try.ntmps75
  go_wp2_with fail
  refine (H.out _ (Three.start _ _ _ _ _ _ _ _ _)).mono ?_
  rintro e w1 ⟨rfl, hb1⟩
  have hk1 : Bel (Three w s s1 A A' n n' c c') w1 := Bel.trans (Three.start _ _ _ _ _ _ _ _ _) hb1
  obtain ⟨_, a1, a2, a3, a4, a5, a6, a7, a8⟩ := HS.out _ hk1
  clear hb1
  go_wp2_with fail
  refine (H'.out _ hk1).mono ?_
  rintro e w2 ⟨rfl, hb2⟩
  have hk2 : Bel (Three w s s1 A A' n n' c c') w2 := Bel.trans hk1 hb2
  obtain ⟨_, b1, b2, b3, b4, b5, b6, b7, b8⟩ := HS.out _ hk2
  clear hb2 a1 a2 a3 a4 a5 a6 a7 a8
  go_wp2_with fail
  refine (HU.out _).mono ?_
  rintro e w3 ⟨s3, A3, n3, c3, rfl, hB3, hb3⟩
  have hk3 : Bel (Three w s s1 A A' n n' c c') w3 := Bel.trans hk2 hb3
  obtain ⟨_, d1, d2, d3, d4, d5, d6, d7, d8⟩ := HS.out _ hk3
  obtain ⟨v3, hN3, _, hv3⟩ := hB3
  have hvq : v3 = q := by cases s3 <;> simp at hv3 <;> omega
  subst hvq
  have HN3 := hide hN3
  clear hb3 b1 b2 b3 b4 b5 b6 b7 b8 hN3 hv3
  go_wp2_with fail
  have hS := sum_nw 5 (by omega) A3 (some ⟨w3.heap.size, 0, none⟩) n3 1 c3 1 v3 1 (w3.alloc (.cells #[.int .i64 1] 3)) (HN3.out.below (below_alloc w3 _)) ((NW.one w3 1 (by omega) (by omega)).more (by omega))
  refine hS.mono ?_
  rintro e w5 ⟨A5, n5, c5, rfl, hN5, hb5⟩
  have hk5 : Bel (Three w s s1 A A' n n' c c') w5 := Bel.trans hk3 ((below_alloc w3 _).trans (hb5.mono (by simp)))
  obtain ⟨_, f1, f2, f3, f4, f5, f6, f7, f8⟩ := HS.out _ hk5
  have HN5 := hide hN5
  clear hb5 hN5
  go_wp2_with fail
  refine (made_any 6 true _ _ _ _ _ HN5.out).mono ?_
  rintro e w4 ⟨s4, A4, n4, c4, rfl, hB4, hb4⟩
  have hk4 : Bel (Three w s s1 A A' n n' c c') w4 := Bel.trans hk5 hb4
  obtain ⟨_, g1, g2, g3, g4, g5, g6, g7, g8⟩ := HS.out _ hk4
  have HB4 := hide (BV.more hB4 (show 6 ≤ 6 by omega))
  have HK4 := hide hk4
  clear hb4 hB4 hk4
  go_wp2_with fail
  refine bodyPost_ret (v := .agg #[.bool s4, .slice A4 n4 c4]) (by simp [results, Try.results75, go_sem, g5, g6]) rfl ?_
  have hfin := HB4.out
  rw [if_pos trivial] at hfin
  exact MadeB.fin (HB.out _ HK4.out) (by omega) (HX.out _ HK4.out) hfin _ _

theorem short_any (N : Nat) (s s1 : Bool) (A A' : Option Addr) (n n' c c' : Nat) (z z' : Int) (w : World) (h : BV w N s A n c z) (h' : BV w N s1 A' n' c' z') (hn : n ≤ 4) (hn' : n' ≤ 4) (hy : z' ≠ 0) :
    Calls Try.prog 75 #[.agg #[.bool s, .slice A n c], .agg #[.bool s1, .slice A' n' c']] w (MadeB w 6 (Int.fdiv z z')) := by
  obtain ⟨x, hx, _, rfl⟩ := h
  obtain ⟨y, hy1, _, rfl⟩ := h'
  have h0 : 0 < y := by
    rcases Nat.eq_zero_or_pos y with h | h
    · subst h; exfalso; apply hy; split <;> simp
    · exact h
  have hf := fdiv_cases (x := x) h0 s s1
  by_cases e : s = s1
  · rw [hf.1 e]; exact short_same N s s1 A A' n n' c c' x y w hx hy1 hn hn' h0 (by simpa using e)
  · by_cases hr : x % y = 0
    · rw [hf.2.1 e hr]; exact short_even N s s1 A A' n n' c c' x y w hx hy1 hn hn' h0 (by simpa using e) hr
    · rw [hf.2.2 e hr]; exact short_odd N s s1 A A' n n' c c' x y w hx hy1 hn hn' h0 (by simpa using e) hr

end Go.Proofs.Ytehkccogbgjcaaa
