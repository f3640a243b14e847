/-
Contracts of package diff: how far two images are apart. No statement is proved here.
-/
import Derived.Test.YtbpnnjnkjbpmaaaDiff1
import Derived.BigRegion
import Derived.RegionTactic
namespace Go.Proofs.Ytbpnnjnkjbpmaaa
open Go.RowKit

theorem below_set7 {B : Nat} {w w1 : World} {g : Nat} (h : Below B w w1) (hg : B ≤ g) (u0 u1 u2 u3 u4 u5 u6 : Value) :
    Below B w (((((((w1.setCell ⟨g, 0, none⟩ u0).setCell ⟨g, 1, none⟩ u1).setCell ⟨g, 2, none⟩ u2).setCell ⟨g, 3, none⟩ u3).setCell ⟨g, 4, none⟩ u4).setCell ⟨g, 5, none⟩ u5).setCell ⟨g, 6, none⟩ u6) :=
  ((((((h.setCell hg u0).setCell hg u1).setCell hg u2).setCell hg u3).setCell hg u4).setCell hg u5).setCell hg u6
/-- a difference and a code -/
def DfTold (w : World) (d : Df) (f : Int) (e : Ending) (w' : World) : Prop := e = .returned (.tuple #[.agg #[.int .i64 d.cnt, .int .i64 d.most, .int .u64 d.sum, .int .u64 d.sq, .int .i64 d.x, .int .i64 d.y, .int .i64 d.k], .int .i64 f]) ∧ Below w.heap.size w w'

theorem Of_err (x y c x' y' c' : Int) (A A' : Option Addr) (n cap n' cap' : Nat) (h : dchkZ x y c n x' y' c' n' ≠ 0) (w : World) :
    Calls Try.prog 7 #[.agg #[.int .i64 x, .int .i64 y, .int .i64 c, .slice A n cap], .agg #[.int .i64 x', .int .i64 y', .int .i64 c', .slice A' n' cap']] w (DfTold w ⟨0, 0, 0, 0, 0, 0, 0⟩ (dchkZ x y c n x' y' c' n')) := by
  have HC := hide (fun w => DCheck_any x y c x' y' c' A A' n cap n' cap' w)
  have H := hide (below_alloc3 w (.cells #[.int .i64 x, .int .i64 y, .int .i64 c, .slice A n cap] 24) (.cells #[.int .i64 x', .int .i64 y', .int .i64 c', .slice A' n' cap'] 24) (.cells #[.int .i64 0, .int .i64 0, .int .u64 0, .int .u64 0, .int .i64 0, .int .i64 0, .int .i64 0] 28))
  have HZ := hide (Bx.at (w := (w.alloc (.cells #[.int .i64 x, .int .i64 y, .int .i64 c, .slice A n cap] 24)).alloc (.cells #[.int .i64 x', .int .i64 y', .int .i64 c', .slice A' n' cap'] 24)) (g := w.heap.size + 1 + 1) (lD ⟨0, 0, 0, 0, 0, 0, 0⟩) 28 (by simp))
  obtain ⟨f, hf⟩ : ∃ f, dchkZ x y c n x' y' c' n' = f := ⟨_, rfl⟩
  rw [hf] at HC h ⊢
  have k1 : (f != 0) = true := by simpa using h
  clear hf h
  go_enter Try.func7, Try.ntmps7
  go_wp2_with fail
  refine (HC.out _).mono ?_
  rintro e w1 ⟨rfl, hb⟩
  obtain ⟨_, ⟨z0, z1, z2, z3, z4, z5, z6⟩, f0, f1, f2, f3, f4, f5, f6⟩ := (HZ.out.below hb).seven
  have L1 := hide (H.out.trans (hb.mono (by simp; omega)))
  clear hb
  go_wp2_with fail
  refine bodyPost_ret (v := .tuple #[.agg #[.int .i64 0, .int .i64 0, .int .u64 0, .int .u64 0, .int .i64 0, .int .i64 0, .int .i64 0], .int .i64 f]) (by simp [results, Try.results7, go_sem, z0, z1, z2, z3, z4, z5, z6]) rfl ⟨rfl, ?_⟩
  exact below_set7 L1.out (by omega) _ _ _ _ _ _ _

/-- what lies there while two images are gone through -/
def OfK (w : World) (x y c : Int) (A A' : Option Addr) (n cap cap' : Nat) (g : Nat) (d : Df) (w' : World) : Prop :=
  Bx w' w.heap.size [.int .i64 x, .int .i64 y, .int .i64 c, .slice A n cap] ∧ Bx w' (w.heap.size + 1) [.int .i64 x, .int .i64 y, .int .i64 c, .slice A' n cap'] ∧ Bx w' (w.heap.size + 1 + 1) (lD ⟨0, 0, 0, 0, 0, 0, 0⟩) ∧ Bx w' g (lD d) ∧ Below w.heap.size w w'

theorem OfK.drewN {w : World} {x y c : Int} {A A' : Option Addr} {n cap cap' g : Nat} {d : Df} {w' : World} (h : OfK w x y c A A' n cap cap' g d w') (m : Nat) : OfK w x y c A A' n cap cap' g d (w'.drewN m) :=
  ⟨h.1.drewN _, h.2.1.drewN _, h.2.2.1.drewN _, h.2.2.2.1.drewN _, bdrewN h.2.2.2.2 _⟩
theorem OfK.drew {w : World} {x y c : Int} {A A' : Option Addr} {n cap cap' g : Nat} {d : Df} {w' : World} (h : OfK w x y c A A' n cap cap' g d w') : OfK w x y c A A' n cap cap' g d w'.drew := ⟨h.1, h.2.1, h.2.2.1, h.2.2.2.1, h.2.2.2.2.drew⟩
theorem OfK.put1 {w : World} {x y c : Int} {A A' : Option Addr} {n cap cap' g : Nat} {d d' : Df} {w' : World} (h : OfK w x y c A A' n cap cap' g d w') (hg : w.heap.size + 3 ≤ g) (i : Nat) (hi : i < 7) (u : Value) (e : (lD d).set i u = lD d') : OfK w x y c A A' n cap cap' g d' (w'.setCell ⟨g, i, none⟩ u) :=
  ⟨h.1.other (by omega) _, h.2.1.other (by omega) _, h.2.2.1.other (by omega) _, e ▸ h.2.2.2.1.set i hi u, h.2.2.2.2.setCell (show w.heap.size ≤ g by omega) _⟩
theorem OfK.put4 {w : World} {x y c : Int} {A A' : Option Addr} {n cap cap' g : Nat} {d : Df} {w' : World} (h : OfK w x y c A A' n cap cap' g d w') (hg : w.heap.size + 3 ≤ g) (a b s q : Int) : OfK w x y c A A' n cap cap' g ⟨a, b, s, q, d.x, d.y, d.k⟩
    ((((w'.setCell ⟨g, 0, none⟩ (.int .i64 a)).setCell ⟨g, 1, none⟩ (.int .i64 b)).setCell ⟨g, 2, none⟩ (.int .u64 s)).setCell ⟨g, 3, none⟩ (.int .u64 q)) :=
  (((h.put1 (d' := ⟨a, d.most, d.sum, d.sq, d.x, d.y, d.k⟩) hg 0 (by omega) _ rfl).put1 (d' := ⟨a, b, d.sum, d.sq, d.x, d.y, d.k⟩) hg 1 (by omega) _ rfl).put1 (d' := ⟨a, b, s, d.sq, d.x, d.y, d.k⟩) hg 2 (by omega) _ rfl).put1 (d' := ⟨a, b, s, q, d.x, d.y, d.k⟩) hg 3 (by omega) _ rfl

theorem OfK.put7 {w : World} {x y c : Int} {A A' : Option Addr} {n cap cap' g : Nat} {d : Df} {w' : World} (h : OfK w x y c A A' n cap cap' g d w') (hg : w.heap.size + 3 ≤ g) (a b s q u v z : Int) : OfK w x y c A A' n cap cap' g ⟨a, b, s, q, u, v, z⟩
    (((((((w'.setCell ⟨g, 4, none⟩ (.int .i64 u)).setCell ⟨g, 5, none⟩ (.int .i64 v)).setCell ⟨g, 6, none⟩ (.int .i64 z)).setCell ⟨g, 0, none⟩ (.int .i64 a)).setCell ⟨g, 1, none⟩ (.int .i64 b)).setCell ⟨g, 2, none⟩ (.int .u64 s)).setCell ⟨g, 3, none⟩ (.int .u64 q)) :=
  (((h.put1 (d' := ⟨d.cnt, d.most, d.sum, d.sq, u, d.y, d.k⟩) hg 4 (by omega) _ rfl).put1 (d' := ⟨d.cnt, d.most, d.sum, d.sq, u, v, d.k⟩) hg 5 (by omega) _ rfl).put1 (d' := ⟨d.cnt, d.most, d.sum, d.sq, u, v, z⟩) hg 6 (by omega) _ rfl).put4 hg a b s q

set_option maxHeartbeats 4000000 in
theorem Of_ok (x y c : Int) (A A' : Option Addr) (n cap cap' : Nat) (xs ys : List Int) (w : World) (h : BY w A n cap xs) (h' : BY w A' n cap' ys) (hd : dchkZ x y c n x y c n = 0) (hc : 1 ≤ c ∧ c ≤ 4) (hx : 1 ≤ x ∧ x ≤ 32768) (hn : n ≤ 16777216) :
    Calls Try.prog 7 #[.agg #[.int .i64 x, .int .i64 y, .int .i64 c, .slice A n cap], .agg #[.int .i64 x, .int .i64 y, .int .i64 c, .slice A' n cap']] w (DfTold w (dfold x c xs ys n) 0) := by
  have HC := hide (fun w => DCheck_any x y c x y c A A' n cap n cap' w)
  rw [hd] at HC
  have HB1 := hide (fun w' (hb : Below w.heap.size w w') => h.below hb)
  have HB2 := hide (fun w' (hb : Below w.heap.size w w') => h'.below hb)
  have HI := hide (dfold_in x c h.2.2.2.1 h'.2.2.2.1)
  have HY1 := hide (getD_byte h.2.2.2.1)
  have HY2 := hide (getD_byte h'.2.2.2.1)
  have P1 := hide (((Bx.at (w := w) (g := w.heap.size) [.int .i64 x, .int .i64 y, .int .i64 c, .slice A n cap] 24 rfl).alloc (.cells #[.int .i64 x, .int .i64 y, .int .i64 c, .slice A' n cap'] 24)).alloc (.cells #[.int .i64 0, .int .i64 0, .int .u64 0, .int .u64 0, .int .i64 0, .int .i64 0, .int .i64 0] 28))
  have P2 := hide ((Bx.at (w := w.alloc (.cells #[.int .i64 x, .int .i64 y, .int .i64 c, .slice A n cap] 24)) (g := w.heap.size + 1) [.int .i64 x, .int .i64 y, .int .i64 c, .slice A' n cap'] 24 (by simp)).alloc (.cells #[.int .i64 0, .int .i64 0, .int .u64 0, .int .u64 0, .int .i64 0, .int .i64 0, .int .i64 0] 28))
  have P3 := hide (Bx.at (w := (w.alloc (.cells #[.int .i64 x, .int .i64 y, .int .i64 c, .slice A n cap] 24)).alloc (.cells #[.int .i64 x, .int .i64 y, .int .i64 c, .slice A' n cap'] 24)) (g := w.heap.size + 1 + 1) (lD ⟨0, 0, 0, 0, 0, 0, 0⟩) 28 (by simp))
  have H := hide (below_alloc3 w (.cells #[.int .i64 x, .int .i64 y, .int .i64 c, .slice A n cap] 24) (.cells #[.int .i64 x, .int .i64 y, .int .i64 c, .slice A' n cap'] 24) (.cells #[.int .i64 0, .int .i64 0, .int .u64 0, .int .u64 0, .int .i64 0, .int .i64 0, .int .i64 0] 28))
  clear h h' hd
  obtain ⟨c1, c2⟩ := hc
  obtain ⟨x1, x2⟩ := hx
  go_enter Try.func7, Try.ntmps7
  go_wp2_with fail
  refine (HC.out _).mono ?_
  rintro e w1 ⟨rfl, hb⟩
  have K1 : OfK w x y c A A' n cap cap' w1.heap.size ⟨0, 0, 0, 0, 0, 0, 0⟩ (w1.alloc (.cells #[.int .i64 0, .int .i64 0, .int .u64 0, .int .u64 0, .int .i64 0, .int .i64 0, .int .i64 0] 28)) :=
    ⟨(P1.out.below hb).alloc _, (P2.out.below hb).alloc _, (P3.out.below hb).alloc _, Bx.at (lD ⟨0, 0, 0, 0, 0, 0, 0⟩) _ rfl, (H.out.trans (hb.mono (by simp; omega))).alloc (by have := hb.size; simp at this; omega) _⟩
  have hz : w.heap.size + 3 ≤ w1.heap.size := by have := hb.size; simp at this; omega
  obtain ⟨_, a0, a1, a2, a3, _, _, _, _⟩ := K1.1.four
  have a3' : w1.cell? ⟨w.heap.size, 3, none⟩ = some (.slice A n cap) := (P1.out.below hb).four.2.2.2.2.1
  have HK := hide K1
  have g1 : w.heap.size < w1.heap.size := by omega
  clear hb P1 P2 P3 H K1
  go_wp2_with fail
  go_loopw [20] (fun i wr => ∃ k : Nat, k ≤ n ∧ i = .int .i64 k ∧ OfK w x y c A A' n cap cap' w1.heap.size (dfold x c xs ys k) wr) (fun i _ => n - (intOf i).toNat)
  case atStart => exact ⟨0, Nat.zero_le _, rfl, HK.out⟩
  case round =>
    clear HK a0 a1 a2 a3 a3'
    obtain ⟨k, hk, rfl, hK⟩ := hrel
    obtain ⟨_, a0, a1, a2, a3, _, _, _, _⟩ := hK.1.four
    obtain ⟨_, b0, b1, b2, b3, _, _, _, _⟩ := hK.2.1.four
    have HIk := HI.out k
    have HS := hide (show dfold x c xs ys (k + 1) = dstep x c k (xs.getD k 0) (ys.getD k 0) (dfold x c xs ys k) from rfl)
    obtain ⟨d, hdd⟩ : ∃ d, dfold x c xs ys k = d := ⟨_, rfl⟩
    rw [hdd] at hK HIk HS
    have HDD := Lib.hid hdd
    obtain ⟨_, ⟨d0, d1, d2, d3, d4, d5, d6⟩, f0, f1, f2, f3, f4, f5, f6⟩ := hK.2.2.2.1.seven
    have HK := hide hK
    clear hK hdd
    by_cases hlt : k < n
    · obtain ⟨p, o, rfl, _, hc1⟩ := (HB1.out _ HK.out.2.2.2.2).2.2.2.2 (by omega)
      obtain ⟨p', o', rfl, _, hc2⟩ := (HB2.out _ HK.out.2.2.2.2).2.2.2.2 (by omega)
      have e1 := hc1 k hlt
      have e2 := hc2 k hlt
      have ia := HY1.out k
      have ib := HY2.out k
      clear hc1 hc2
      obtain ⟨a, ha⟩ : ∃ a, xs.getD k 0 = a := ⟨_, rfl⟩
      obtain ⟨b, hb⟩ : ∃ b, ys.getD k 0 = b := ⟨_, rfl⟩
      rw [ha] at e1 ia HS
      rw [hb] at e2 ib HS
      clear ha hb
      have i0 : (0 : Int) ≤ (k : Int) := by omega
      have i1 : (k : Int) < (n : Int) := by omega
      obtain ⟨z1, z2, z3⟩ := absd_in ia ib
      have HAB := hide (fun w => apart_any a b ia ib w)
      obtain ⟨⟨m1, m2⟩, ⟨m3, m4⟩, ⟨m5, m6⟩, m7, m8⟩ := HIk
      clear ia ib
      by_cases he : a = b
      · subst he
        have hz0 : absd a a = 0 := by unfold absd; split <;> omega
        rw [hz0] at HAB
        have hs : dfold x c xs ys (k + 1) = d := HS.out.trans (if_pos rfl)
        have HS' := Lib.hid hs
        clear hs hz0 z1 z2 z3
        go_wp2_with fail
        go_quiet ((go_at_call 18; exact Calls.quiet_of_same ((HAB.out _).mono fun _ _ h => ⟨h.1, h.2.symm⟩)))
        go_wp2_with fail
        go_roundw
        case rel => exact ⟨k + 1, by omega, by go_num, by rw [HS'.out]; exact ⟨HK.out.1.drewN _, HK.out.2.1.drewN _, HK.out.2.2.1.drewN _, HK.out.2.2.2.1.drewN _, bdrewN HK.out.2.2.2.2 _⟩⟩
        case measure => simp [intOf]; omega
      · have hz1 := z3 he
        have s1 := sq_in ⟨z1, z2⟩
        obtain ⟨t, ht⟩ : ∃ t, absd a b = t := ⟨_, rfl⟩
        rw [ht] at HAB z1 z2 hz1 s1
        have hst := HS.out.trans (if_neg he)
        rw [ht] at hst
        have HS' := Lib.hid hst
        have k0 : (t == 0) = false := by simp; omega
        clear HS ht hst z3
        obtain ⟨s1, s2⟩ := s1
        go_wp2_with fail
        go_quiet ((go_at_call 18; exact Calls.quiet_of_same ((HAB.out _).mono fun _ _ h => ⟨h.1, h.2.symm⟩)))
        by_cases hc0 : d.cnt = 0
        · have k1 : (d.cnt == 0) = true := by simpa using hc0
          have hst := HS'.out.trans (if_pos hc0)
          have HS2 := Lib.hid hst
          clear hst hc0
          have hx := if_max
          go_wp2_with fail
          have HKd := hide (HK.out.drewN nq)
          generalize wr.drewN nq = wq at HKd ⊢
          clear a0 a1 a2 a3 b0 b1 b2 b3 d0 d1 d2 d3 d4 d5 d6 f0 f1 f2 f3 f4 f5 f6 e1 e2
          obtain ⟨_, a0, a1, a2, a3, _, _, _, _⟩ := HKd.out.1.four
          obtain ⟨_, ⟨d0, d1, d2, d3, d4, d5, d6⟩, f0, f1, f2, f3, f4, f5, f6⟩ := HKd.out.2.2.2.1.seven
          have q1 : 0 ≤ (k : Int) / c := Int.ediv_nonneg i0 (by omega)
          have q2 : (k : Int) / c ≤ 16777216 := by have := Int.ediv_le_self c i0; omega
          have q3 : 0 ≤ (k : Int) / c / x := Int.ediv_nonneg q1 (by omega)
          have q4 : (k : Int) / c / x ≤ 16777216 := by have := Int.ediv_le_self x q1; omega
          go_region
          go_wp2_with fail
          go_roundw
          case rel =>
            refine ⟨k + 1, by omega, by go_num, ?_⟩
            rw [HS2.out]
            with_reducible exact (HKd.out.put7 (by omega) _ _ _ _ _ _ _).drew
          case measure => simp [intOf]; omega
        · have k1 : (d.cnt == 0) = false := by simpa using hc0
          have hst := HS'.out.trans (if_neg hc0)
          have HS2 := Lib.hid hst
          clear hst hc0
          have hx := if_max
          go_wp2_with fail
          go_roundw
          case rel => exact ⟨k + 1, by omega, by go_num, by rw [HS2.out]; exact (HK.out.drewN _).put4 (by omega) _ _ _ _⟩
          case measure => simp [intOf]; omega
    · obtain rfl : k = n := by omega
      have HF := hide HK.out.2.2.2.2
      obtain ⟨_, ⟨r0, r1, r2, r3, r4, r5, r6⟩, y0, y1, y2, y3, y4, y5, y6⟩ := HK.out.2.2.1.seven
      go_wp2_with fail
      rw [HDD.out]
      refine bodyPost_ret (v := .tuple #[.agg #[.int .i64 d.cnt, .int .i64 d.most, .int .u64 d.sum, .int .u64 d.sq, .int .i64 d.x, .int .i64 d.y, .int .i64 d.k], .int .i64 0]) (by simp [results, Try.results7, go_sem, r0, r1, r2, r3, r4, r5, r6]) rfl ⟨rfl, ?_⟩
      exact below_set7 HF.out (by omega) _ _ _ _ _ _ _

end Go.Proofs.Ytbpnnjnkjbpmaaa
