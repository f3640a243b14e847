/-
The law DiffTells: its walk where the images can be held against each other. No statement is proved here.
-/
import Derived.Test.YtbpnnjnkjbpmaaaTells0
namespace Go.Proofs.Ytbpnnjnkjbpmaaa
open Go.RowKit

set_option maxHeartbeats 4000000 in
set_option maxRecDepth 100000 in
theorem Tells_in (x y c b' : Int) (A A' : Option Addr) (n cap cap' : Nat) (xs ys : List Int) (w : World) (h : BY w A n cap xs) (h' : BY w A' n cap' ys) (hn : n ≤ 20000) (hd : dchkZ x y c n x y c n = 0) :
    Calls Try.prog 3 #[.agg #[.int .i64 x, .int .i64 y, .int .i64 c, .slice A n cap], .agg #[.int .i64 x, .int .i64 y, .int .i64 c, .slice A' n cap'], .int .i64 b'] w (Says w (.bool true)) := by
  obtain ⟨hf, _⟩ := dchk_ok hd
  obtain ⟨fc, fx, _⟩ := fits_zero hf
  have F1 := hide (fun w => Few_any x y c A n cap 20000 w)
  have F2 := hide (fun w => Few_any x y c A' n cap' 20000 w)
  rw [show decide ((n : Int) ≤ 20000) = true by simp; omega] at F1 F2
  have C1 := hide (fun w => RDCheck_any x y c x y c A A' n cap n cap' w)
  have C2 := hide (fun w => DCheck_any x y c x y c A A' n cap n cap' w)
  rw [hd] at C1 C2
  have O1 := hide (fun w' (hb : Below w.heap.size w w') => Of_ok x y c A A' n cap cap' xs ys w' (h.below hb) (h'.below hb) hd (by omega) fx (by omega))
  have M1 := hide (fun w' (hb : Below w.heap.size w w') => Map_ok x y c A A' n cap cap' xs ys w' (h.below hb) (h'.below hb) hd)
  have HB1 := hide (fun w' (hb : Below w.heap.size w w') => h.below hb)
  have HB2 := hide (fun w' (hb : Below w.heap.size w w') => h'.below hb)
  have HY1 := hide (getD_byte h.2.2.2.1)
  have HY2 := hide (getD_byte h'.2.2.2.1)
  have HI := hide (dfold_in x c h.2.2.2.1 h'.2.2.2.1)
  have HC := hide (show (1 ≤ c ∧ c ≤ 4) ∧ (1 ≤ x ∧ x ≤ 32768) from ⟨by omega, fx⟩)
  have KS := Two2.start (x := x) (y := y) (c := c) (x' := x) (y' := y) (c' := c) h h'
  obtain ⟨_, a0, a1, a2, a3, _, _, _, _⟩ := KS.1.four
  obtain ⟨_, b0, b1, b2, b3, _, _, _, _⟩ := KS.2.1.four
  have HKS := hide KS
  have hk0 : checkZ x y c n = 0 := by rw [checkZ, if_pos hf]; exact if_pos (dchk_ok hd).2.2.2.2.1
  have C3 := hide (fun g w => RCheck_any x y c g n n w)
  rw [hk0] at C3
  have AL := hide alive13_any
  have HN := hide hn
  clear KS h h' hd hf fc fx hn hk0
  go_enter Try.func3, Try.ntmps3
  go_wp2_with fail
  refine (F1.out _).mono ?_
  rintro e w1 ⟨rfl, hb⟩
  have K1 := hide (HKS.out.below hb)
  clear hb a0 a1 a2 a3 b0 b1 b2 b3 HKS
  obtain ⟨_, b0, b1, b2, b3, _, _, _, _⟩ := K1.out.2.1.four
  go_wp2_with fail
  refine (F2.out _).mono ?_
  rintro e w2 ⟨rfl, hb⟩
  have K2 := hide (K1.out.below hb)
  clear hb b0 b1 b2 b3 K1
  obtain ⟨_, a0, a1, a2, a3, _, _, _, _⟩ := K2.out.1.four
  obtain ⟨_, b0, b1, b2, b3, _, _, _, _⟩ := K2.out.2.1.four
  go_wp2_with fail
  refine (O1.out _ K2.out.2.2.2.2).mono ?_
  rintro e w3 ⟨rfl, hb⟩
  have K3 := hide (K2.out.below hb)
  clear hb a0 a1 a2 a3 b0 b1 b2 b3 K2
  obtain ⟨_, a0, a1, a2, a3, _, _, _, _⟩ := K3.out.1.four
  obtain ⟨_, b0, b1, b2, b3, _, _, _, _⟩ := K3.out.2.1.four
  obtain ⟨d, hdd⟩ : ∃ d, dfold x c xs ys n = d := ⟨_, rfl⟩
  rw [hdd]
  have HDD := Lib.hid hdd
  clear hdd
  have K4 := hide (K3.out.below (below_alloc w3 (.cells #[.int .i64 d.cnt, .int .i64 d.most, .int .u64 d.sum, .int .u64 d.sq, .int .i64 d.x, .int .i64 d.y, .int .i64 d.k] 28)))
  have D4 := hide (Bx.at (w := w3) (g := w3.heap.size) (lD d) 28 rfl)
  have Y3 := hide K3.out.2.2.2.2.size
  clear K3
  go_wp2_with fail
  refine (M1.out _ K4.out.2.2.2.2).mono ?_
  rintro e w4 ⟨g, rfl, hg, hG, hb⟩
  have K5 := hide (K4.out.below hb)
  have D5 := hide (D4.out.below hb)
  have G5 := hide hG
  have Y4 := hide hb.size
  clear hb a0 a1 a2 a3 b0 b1 b2 b3 K4 D4 hG
  obtain ⟨_, a0, a1, a2, a3, _, _, _, _⟩ := K5.out.1.four
  obtain ⟨_, b0, b1, b2, b3, _, _, _, _⟩ := K5.out.2.1.four
  have L5 := below_alloc w4 (.cells #[.int .i64 x, .int .i64 y, .int .i64 c, .slice (some ⟨g, 0, none⟩) n n] 24)
  have K6 := hide (K5.out.below L5)
  have D6 := hide (D5.out.below L5)
  have G6 := hide (G5.out.below L5)
  have M6 := hide (Bx.at (w := w4) (g := w4.heap.size) [.int .i64 x, .int .i64 y, .int .i64 c, .slice (some ⟨g, 0, none⟩) n n] 24 rfl)
  clear K5 D5 G5 L5
  go_wp2_with fail
  refine (C1.out _).mono ?_
  rintro e w5 ⟨rfl, hb⟩
  have K7 := hide (K6.out.below hb)
  have D7 := hide (D6.out.below hb)
  have G7 := hide (G6.out.below hb)
  have M7 := hide (M6.out.below hb)
  have Y5 := hide hb.size
  clear hb a0 a1 a2 a3 b0 b1 b2 b3 K6 D6 G6 M6
  obtain ⟨_, a0, a1, a2, a3, _, _, _, _⟩ := K7.out.1.four
  obtain ⟨_, b0, b1, b2, b3, _, _, _, _⟩ := K7.out.2.1.four
  go_wp2_with fail
  refine (C2.out _).mono ?_
  rintro e w6 ⟨rfl, hb⟩
  have K8 := hide (K7.out.below hb)
  have D8 := hide (D7.out.below hb)
  have G8 := hide (G7.out.below hb)
  have M8 := hide (M7.out.below hb)
  have Yw6 := hide hb.size
  clear hb a0 a1 a2 a3 b0 b1 b2 b3 K7 D7 G7 M7
  obtain ⟨_, a0, a1, a2, a3, _, _, _, _⟩ := K8.out.1.four
  obtain ⟨_, b0, b1, b2, b3, _, _, _, _⟩ := K8.out.2.1.four
  obtain ⟨_, m0, m1, m2, m3, _, _, _, _⟩ := M8.out.four
  go_wp2_with fail
  refine (C3.out _ _).mono ?_
  rintro e w7 ⟨rfl, hb⟩
  have K9 := hide (K8.out.below hb)
  have D9 := hide (D8.out.below hb)
  have G9 := hide (G8.out.below hb)
  have M9 := hide (M8.out.below hb)
  have Yw7 := hide hb.size
  clear hb a0 a1 a2 a3 b0 b1 b2 b3 K8 D8 G8 M8 m0 m1 m2 m3
  obtain ⟨_, a0, a1, a2, a3, _, _, _, _⟩ := K9.out.1.four
  obtain ⟨_, b0, b1, b2, b3, _, _, _, _⟩ := K9.out.2.1.four
  obtain ⟨_, m0, m1, m2, m3, _, _, _, _⟩ := M9.out.four
  go_wp2_with fail
  have TS : TK w x y c A A' n cap cap' w3.heap.size g w4.heap.size w7.heap.size xs ys d ⟨0, 0, 0, 0, 0, 0, 0⟩ (w7.alloc (.cells #[.int .i64 0, .int .i64 0, .int .u64 0, .int .u64 0, .int .i64 0, .int .i64 0, .int .i64 0] 28)) :=
    ⟨K9.out.1.alloc _, K9.out.2.1.alloc _, D9.out.alloc _, G9.out.alloc _, M9.out.alloc _, Bx.at (lD ⟨0, 0, 0, 0, 0, 0, 0⟩) _ rfl, K9.out.2.2.2.2.alloc K9.out.2.2.2.2.size _⟩
  have TA : TKapart w.heap.size w3.heap.size g w4.heap.size w7.heap.size := ⟨K9.out.2.1.1, D9.out.1, G9.out.1, M9.out.1⟩
  have HTS := hide TS
  have HTA := hide TA
  clear TS TA K9 D9 G9 M9 hg a0 a1 a2 a3 b0 b1 b2 b3 m0 m1 m2 m3
  go_loopw [13] (fun i wr => ∃ k : Nat, k ≤ n ∧ i = .int .i64 k ∧ TK w x y c A A' n cap cap' w3.heap.size g w4.heap.size w7.heap.size xs ys d (dfold x c xs ys k) wr) (fun i _ => n - (intOf i).toNat)
  case atStart => exact ⟨0, Nat.zero_le _, rfl, HTS.out⟩
  case round =>
    clear HTS
    obtain ⟨k, hk, rfl, hK⟩ := hrel
    obtain ⟨_, a0, a1, a2, a3, _, _, _, _⟩ := hK.1.four
    obtain ⟨_, b0, b1, b2, b3, _, _, _, _⟩ := hK.2.1.four
    obtain ⟨_, m0, m1, m2, m3, _, _, _, _⟩ := hK.2.2.2.2.1.four
    have HIk := HI.out k
    have HS := hide (show dfold x c xs ys (k + 1) = dstep x c k (xs.getD k 0) (ys.getD k 0) (dfold x c xs ys k) from rfl)
    obtain ⟨e, hee⟩ : ∃ e, dfold x c xs ys k = e := ⟨_, rfl⟩
    rw [hee] at hK HIk HS
    have HEE := Lib.hid hee
    have HK := hide hK
    clear hK hee
    have hn := HN.out
    by_cases hlt : k < n
    · obtain ⟨p, o, rfl, _, hc1⟩ := (HB1.out _ HK.out.2.2.2.2.2.2).2.2.2.2 (by omega)
      obtain ⟨p', o', rfl, _, hc2⟩ := (HB2.out _ HK.out.2.2.2.2.2.2).2.2.2.2 (by omega)
      have e1 := hc1 k hlt
      have e2 := hc2 k hlt
      have e3 := HK.out.cell hlt
      have ia := HY1.out k
      have ib := HY2.out k
      clear hc1 hc2
      obtain ⟨a, ha⟩ : ∃ a, xs.getD k 0 = a := ⟨_, rfl⟩
      obtain ⟨b, hb⟩ : ∃ b, ys.getD k 0 = b := ⟨_, rfl⟩
      rw [ha] at e1 e3 ia HS
      rw [hb] at e2 e3 ib HS
      clear ha hb
      have i0 : (0 : Int) ≤ (k : Int) := by omega
      have i1 : (k : Int) < (n : Int) := by omega
      obtain ⟨z1, z2, z3⟩ := absd_in ia ib
      have HAB := hide (fun w => RApart_any a b ia ib w)
      obtain ⟨⟨m1', m2'⟩, ⟨m3', m4'⟩, ⟨m5', m6'⟩, m7', m8'⟩ := HIk
      clear ia ib
      obtain ⟨_, ⟨d0, d1, d2, d3, d4, d5, d6⟩, f0, f1, f2, f3, f4, f5, f6⟩ := HK.out.2.2.2.2.2.1.seven
      have hx := if_max
      by_cases he : a = b
      · subst he
        have hz0 : absd a a = 0 := by unfold absd; split <;> omega
        have hs : dfold x c xs ys (k + 1) = e := HS.out.trans (if_pos rfl)
        have HS' := Lib.hid hs
        rw [hz0] at HAB e3
        clear hs hz0 z1 z2 z3
        go_wp2_with fail
        go_quiet ((go_at_call 15; exact Calls.quiet_of_same ((HAB.out _).mono fun _ _ h => ⟨h.1, h.2.symm⟩)))
        go_wp2_with fail
        go_roundw
        case rel =>
          refine ⟨k + 1, by omega, by go_num, ?_⟩
          have hq := (HK.out.drewN nq).put3 HTA.out (max e.most 0) e.sum e.sq
          rw [show max e.most 0 = e.most by omega] at hq ⊢
          rw [HS'.out]
          exact hq
        case measure => simp [intOf]; omega
      · have hz1 := z3 he
        have s1 := sq_in ⟨z1, z2⟩
        obtain ⟨t, ht⟩ : ∃ t, absd a b = t := ⟨_, rfl⟩
        rw [ht] at HAB e3 z1 z2 hz1 s1
        have hst := HS.out.trans (if_neg he)
        rw [ht] at hst
        have HS' := Lib.hid hst
        clear HS ht hst z3
        obtain ⟨s1, s2⟩ := s1
        by_cases hc0 : e.cnt = 0
        · have k1 : (e.cnt == 0) = true := by simpa using hc0
          have hst := HS'.out.trans (if_pos hc0)
          have HS2 := Lib.hid hst
          clear hst hc0
          have q1 : 0 ≤ (k : Int) / c := Int.ediv_nonneg i0 (by have := HC.out; omega)
          have q2 : (k : Int) / c ≤ 16777216 := by have := Int.ediv_le_self c i0; omega
          have q3 : 0 ≤ (k : Int) / c / x := Int.ediv_nonneg q1 (by have := HC.out; omega)
          have q4 : (k : Int) / c / x ≤ 16777216 := by have := Int.ediv_le_self x q1; omega
          have hc1 := HC.out.1.1
          have hc2 := HC.out.1.2
          have hc3 := HC.out.2.1
          have hc4 := HC.out.2.2
          go_wp2_with fail
          go_quiet ((go_at_call 15; exact Calls.quiet_of_same ((HAB.out _).mono fun _ _ h => ⟨h.1, h.2.symm⟩)))
          go_wp2_with fail
          have HKd := hide (HK.out.drewN nq)
          generalize wr.drewN nq = wq at HKd ⊢
          clear a0 a1 a2 a3 b0 b1 b2 b3 m0 m1 m2 m3 d0 d1 d2 d3 d4 d5 d6 f0 f1 f2 f3 f4 f5 f6 e1 e2 e3
          obtain ⟨_, a0, a1, a2, a3, _, _, _, _⟩ := HKd.out.1.four
          obtain ⟨_, ⟨d0, d1, d2, d3, d4, d5, d6⟩, f0, f1, f2, f3, f4, f5, f6⟩ := HKd.out.2.2.2.2.2.1.seven
          go_region
          go_wp2_with fail
          go_roundw
          case rel =>
            refine ⟨k + 1, by omega, by go_num, ?_⟩
            rw [HS2.out]
            with_reducible exact (HKd.out.put7 HTA.out _ _ _ _ _ _ _).drew
          case measure => simp [intOf]; omega
        · have k1 : (e.cnt == 0) = false := by simpa using hc0
          have hst := HS'.out.trans (if_neg hc0)
          have HS2 := Lib.hid hst
          clear hst hc0
          go_wp2_with fail
          go_quiet ((go_at_call 15; exact Calls.quiet_of_same ((HAB.out _).mono fun _ _ h => ⟨h.1, h.2.symm⟩)))
          go_wp2_with fail
          go_roundw
          case rel => exact ⟨k + 1, by omega, by go_num, by rw [HS2.out]; exact (HK.out.drewN _).put4 HTA.out _ _ _ _⟩
          case measure => simp [intOf]; omega
    · obtain rfl : k = n := by omega
      have hds : d = e := HDD.out.symm.trans HEE.out
      subst hds
      have HW := hide (fun dd os => Within_any x y c x y c b' A A' k cap k cap' (Sort.grow (redrawn wr dd) os) d 0 (fun w1 hb => by have q := O1.out w1 (HK.out.2.2.2.2.2.2.trans (((below_regrown wr dd os).trans (hb.mono (below_regrown wr dd os).size)).mono HK.out.2.2.2.2.2.2.size)); rw [HDD.out] at q; exact q))
      have hq := fun w => eql_diff d d w
      rw [decide_eq_true rfl] at hq
      obtain ⟨_, ⟨d0, d1, d2, d3, d4, d5, d6⟩, _⟩ := HK.out.2.2.2.2.2.1.seven
      obtain ⟨_, ⟨r0, r1, r2, r3, r4, r5, r6⟩, _⟩ := HK.out.2.2.1.seven
      have za0 := cell_regrown a0
      have za1 := cell_regrown a1
      have za2 := cell_regrown a2
      have za3 := cell_regrown a3
      have zb0 := cell_regrown b0
      have zb1 := cell_regrown b1
      have zb2 := cell_regrown b2
      have zb3 := cell_regrown b3
      have zd0 := cell_regrown d0
      have zd1 := cell_regrown d1
      have zd2 := cell_regrown d2
      have zd3 := cell_regrown d3
      have zd4 := cell_regrown d4
      have zd5 := cell_regrown d5
      have zd6 := cell_regrown d6
      have zr0 := cell_regrown r0
      have zr1 := cell_regrown r1
      have zr2 := cell_regrown r2
      have zr3 := cell_regrown r3
      have zr4 := cell_regrown r4
      have zr5 := cell_regrown r5
      have zr6 := cell_regrown r6
      go_wp2_with fail
      refine wp_region_quiet_below (by kernel_rfl) (by kernel_rfl) ?_
      repeat (go_big_quiet_step ((first
        | (go_at_call 12; exact Calls.regrown_of (HW.out _ _))
        | (go_at_call 13; exact Calls.regrown_of (AL.out _)))))
      refine wpQuiet_nil ?_
      rintro wz ⟨pz, hz⟩
      have L := hide (show Below w.heap.size w wz from hz ▸ HK.out.2.2.2.2.2.2.trans ((below_regrown _ _ _).mono HK.out.2.2.2.2.2.2.size))
      clear hz
      go_wp2_with fail
      go_ret
      exact ⟨rfl, L.out⟩

end Go.Proofs.Ytbpnnjnkjbpmaaa
