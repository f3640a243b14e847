/-
Contracts of the reference's At. No statement is proved here.
-/
import Derived.Test.YtbogckpnajjlmaaBp3
import Derived.Test.YtbogckpnajjlmaaBIdx3
namespace Go.Proofs.Ytbogckpnajjlmaa
open Go.RowKit

set_option maxHeartbeats 4000000 in
theorem RBAt_yes (x y c : Int) (A : Option Addr) (n cap : Nat) (xs : List Int) (mode k0 k1 k2 k3 px py k : Int) (w : World) (h : bcheckZ x y c n mode = 0) (hx : isI64 px) (hy : isI64 py) (hB : BY w A n cap xs) (hk : 0 ≤ k ∧ k < c) :
    Calls Try.prog 21 #[.agg #[.int .i64 x, .int .i64 y, .int .i64 c, .slice A n cap], .agg #[.int .i64 mode, .int .u8 k0, .int .u8 k1, .int .u8 k2, .int .u8 k3], .int .i64 px, .int .i64 py, .int .i64 k] w (Says w (.int .u8 ((pixL x y c xs mode [k0, k1, k2, k3] px py).getD k.toNat 0))) := by
  have H0 := below_alloc2 w (.cells #[.int .i64 x, .int .i64 y, .int .i64 c, .slice A n cap] 24) (.cells #[.int .i64 mode, .int .u8 k0, .int .u8 k1, .int .u8 k2, .int .u8 k3] 41)
  have B0 := (Bx.at (w := w) (g := w.heap.size) [.int .i64 x, .int .i64 y, .int .i64 c, .slice A n cap] 24 rfl).alloc (.cells #[.int .i64 mode, .int .u8 k0, .int .u8 k1, .int .u8 k2, .int .u8 k3] 41)
  have B1 := Bx.at (w := w.alloc (.cells #[.int .i64 x, .int .i64 y, .int .i64 c, .slice A n cap] 24)) (g := w.heap.size + 1) [.int .i64 mode, .int .u8 k0, .int .u8 k1, .int .u8 k2, .int .u8 k3] 41 (by simp)
  have e0 : [Value.int .i64 mode, .int .u8 k0, .int .u8 k1, .int .u8 k2, .int .u8 k3].toArray = #[Value.int .i64 mode, .int .u8 k0, .int .u8 k1, .int .u8 k2, .int .u8 k3] := rfl
  have e1 : [Value.int .i64 x, .int .i64 y, .int .i64 c, .slice A n cap].toArray = #[Value.int .i64 x, .int .i64 y, .int .i64 c, .slice A n cap] := rfl
  rw [e1] at B0 B1
  rw [e0] at B1
  have HL := hide H0
  have HB1 := hide B1
  have HB0 := hide B0
  clear H0 B1 B0 e0 e1
  rw [pixL_get h px py k hk.1 hk.2]
  obtain ⟨hc, hm⟩ := bcheck_zero h
  obtain ⟨x1, x2, y1, y2, c1⟩ := size_ok hc
  have HX := hide (fun w => RIndex_any mode px x (by omega) hx w)
  have HY := hide (fun w => RIndex_any mode py y (by omega) hy w)
  have hP := bat_has h px py k hk
  obtain ⟨_, _, ⟨r1, r2⟩, n1⟩ := has_in hP
  have HPl := hide (fun w => RPlace_any x y c A n cap (idxV mode px x) (idxV mode py y) k w)
  rw [show placeZ x y c n (idxV mode px x) (idxV mode py y) k = bat x y c mode px py + k from if_pos hP] at HPl
  have r1' : 0 ≤ bat x y c mode px py := r1
  have r2' : bat x y c mode px py + c ≤ n := r2
  have ci : -9223372036854775808 ≤ idxV mode px x ∧ idxV mode px x ≤ 9223372036854775807 := by have := idx_in (i := px) hm x1; omega
  have cj : -9223372036854775808 ≤ idxV mode py y ∧ idxV mode py y ≤ 9223372036854775807 := by have := idx_in (i := py) hm y1; omega
  generalize bat x y c mode px py = F at *
  unfold bthere
  generalize idxV mode px x = i at *
  generalize idxV mode py y = j at *
  generalize idxB mode px x = b1 at *
  generalize idxB mode py y = b2 at *
  have ei : IntKind.i64.wrap i = i := IntWalk.i64_in _ ci
  have ej : IntKind.i64.wrap j = j := IntWalk.i64_in _ cj
  obtain ⟨K, hK⟩ : ∃ K : Nat, k = K := ⟨k.toNat, by omega⟩
  subst hK
  have e3 : ((K : Int)).toNat = K := by omega
  rw [e3]
  have k4 : K < 4 := by omega
  obtain ⟨_, a0, a1, a2, a3, _, _, _, _⟩ := HB0.out.four
  obtain ⟨_, g0, g1, g2, g3, g4⟩ := HB1.out.five
  by_cases hb12 : (b1 && b2) = true
  · obtain ⟨rfl, rfl⟩ : b1 = true ∧ b2 = true := by simpa using hb12
    rw [if_pos hb12]
    obtain ⟨bb, o, rfl, hlt, hcs⟩ := hB.2.2.2.2 (by omega)
    have hcell := hcs (F + K).toNat (by omega)
    generalize xs.getD (F + K).toNat 0 = v at hcell ⊢
    have i0 : 0 ≤ F + (K : Int) := by omega
    have i1 : F + (K : Int) < (n : Int) := by omega
    clear h hc hm c1 r1 r2 n1 r1' r2' hB hx hy hcs hP x1 x2 y1 y2 ci cj hb12 hk
    go_enter Try.func21, Try.ntmps21
    go_wp2_with fail
    refine (HX.out _).mono ?_
    rintro e w1 ⟨rfl, hb⟩
    have L1 := hide (HL.out.trans (hb.mono HL.out.size))
    have C0 := hide (HB0.out.below hb)
    have C1 := hide (HB1.out.below hb)
    clear hb a0 a1 a2 a3 g0 g1 g2 g3 g4
    obtain ⟨_, a0, a1, a2, a3, _, _, _, _⟩ := C0.out.four
    obtain ⟨_, g0, g1, g2, g3, g4⟩ := C1.out.five
    go_wp2_with fail
    refine (HY.out _).mono ?_
    rintro e w2 ⟨rfl, hb⟩
    have L2 := hide (L1.out.trans (hb.mono L1.out.size))
    have D0 := hide (C0.out.below hb)
    have hcell2 := (L2.out.cell (p := ⟨bb, o + (F + (K : Int)).toNat, none⟩) hlt).trans hcell
    clear hb a0 a1 a2 a3 g0 g1 g2 g3 g4 hcell
    obtain ⟨_, a0, a1, a2, a3, _, _, _, _⟩ := D0.out.four
    replace a0 := cell_regrown a0
    replace a1 := cell_regrown a1
    replace a2 := cell_regrown a2
    replace a3 := cell_regrown a3
    replace hcell2 := cell_regrown hcell2
    go_wp2_with fail
    refine wp_region_quiet_below (by kernel_rfl) (by kernel_rfl) ?_
    iterate 10 (go_big_quiet_step ((go_at_call 46; exact Calls.regrown_of (HPl.out _))))
    refine wpQuiet_nil ?_
    rintro wz ⟨pz, hz⟩
    have L3 := hide (show Below w.heap.size w wz from hz ▸ L2.out.trans ((below_regrown _ _ _).mono L2.out.size))
    clear hz
    go_wp2_with fail
    go_ret
    exact ⟨rfl, L3.out⟩
  · rw [if_neg hb12]
    have k5 : (K : Int) < 4 := by omega
    obtain ⟨v, hv⟩ : ∃ v, [k0, k1, k2, k3].getD K 0 = v := ⟨_, rfl⟩
    rw [hv]
    have HV := Lib.hid hv
    clear hv
    clear h hc hm c1 r1 r2 n1 r1' r2' hB hx hy hP x1 x2 y1 y2 ci cj hk
    have HN := hide hb12
    clear hb12
    cases b1
    · go_enter Try.func21, Try.ntmps21
      go_wp2_with fail
      refine (HX.out _).mono ?_
      rintro e w1 ⟨rfl, hb⟩
      have L1 := hide (HL.out.trans (hb.mono HL.out.size))
      have C0 := hide (HB0.out.below hb)
      have C1 := hide (HB1.out.below hb)
      clear hb a0 a1 a2 a3 g0 g1 g2 g3 g4
      obtain ⟨_, a0, a1, a2, a3, _, _, _, _⟩ := C0.out.four
      obtain ⟨_, g0, g1, g2, g3, g4⟩ := C1.out.five
      go_wp2_with fail
      refine (HY.out _).mono ?_
      rintro e w2 ⟨rfl, hb⟩
      have L2 := hide (L1.out.trans (hb.mono L1.out.size))
      have D1 := hide (C1.out.below hb)
      clear hb a0 a1 a2 a3 g0 g1 g2 g3 g4
      have hcell := col_cell D1.out K k4
      rw [HV.out] at hcell
      go_wp2_with fail
      go_ret
      exact ⟨rfl, L2.out⟩
    · obtain rfl : b2 = false := by
        have := HN.out
        cases b2
        · rfl
        · exact absurd rfl this
      go_enter Try.func21, Try.ntmps21
      go_wp2_with fail
      refine (HX.out _).mono ?_
      rintro e w1 ⟨rfl, hb⟩
      have L1 := hide (HL.out.trans (hb.mono HL.out.size))
      have C0 := hide (HB0.out.below hb)
      have C1 := hide (HB1.out.below hb)
      clear hb a0 a1 a2 a3 g0 g1 g2 g3 g4
      obtain ⟨_, a0, a1, a2, a3, _, _, _, _⟩ := C0.out.four
      obtain ⟨_, g0, g1, g2, g3, g4⟩ := C1.out.five
      go_wp2_with fail
      refine (HY.out _).mono ?_
      rintro e w2 ⟨rfl, hb⟩
      have L2 := hide (L1.out.trans (hb.mono L1.out.size))
      have D1 := hide (C1.out.below hb)
      clear hb a0 a1 a2 a3 g0 g1 g2 g3 g4
      have hcell := col_cell D1.out K k4
      rw [HV.out] at hcell
      go_wp2_with fail
      go_ret
      exact ⟨rfl, L2.out⟩
end Go.Proofs.Ytbogckpnajjlmaa
