/-
Contracts of border's At. No statement is proved here.
-/
import Derived.Test.YtbogckpnajjlmaaBp1
import Derived.Test.YtbogckpnajjlmaaRow7
namespace Go.Proofs.Ytbogckpnajjlmaa
open Go.RowKit

set_option maxHeartbeats 2000000 in
theorem BAt_no (x y c : Int) (A : Option Addr) (n cap : Nat) (mode k0 k1 k2 k3 px py k z : Int) (w : World) (h : bcheckZ x y c n mode = z) (hz : z ≠ 0) :
    Calls Try.prog 17 #[.agg #[.int .i64 x, .int .i64 y, .int .i64 c, .slice A n cap], .agg #[.int .i64 mode, .int .u8 k0, .int .u8 k1, .int .u8 k2, .int .u8 k3], .int .i64 px, .int .i64 py, .int .i64 k] w (Says w (.tuple #[.int .u8 0, .int .i64 z])) := by
  have H0 := below_alloc2 w (.cells #[.int .i64 x, .int .i64 y, .int .i64 c, .slice A n cap] 24) (.cells #[.int .i64 mode, .int .u8 k0, .int .u8 k1, .int .u8 k2, .int .u8 k3] 41)
  have B0 := (Bx.at (w := w) (g := w.heap.size) [.int .i64 x, .int .i64 y, .int .i64 c, .slice A n cap] 24 rfl).alloc (.cells #[.int .i64 mode, .int .u8 k0, .int .u8 k1, .int .u8 k2, .int .u8 k3] 41)
  have B1 := Bx.at (w := w.alloc (.cells #[.int .i64 x, .int .i64 y, .int .i64 c, .slice A n cap] 24)) (g := w.heap.size + 1) [.int .i64 mode, .int .u8 k0, .int .u8 k1, .int .u8 k2, .int .u8 k3] 41 (by simp)
  have e0 : [Value.int .i64 mode, .int .u8 k0, .int .u8 k1, .int .u8 k2, .int .u8 k3].toArray = #[Value.int .i64 mode, .int .u8 k0, .int .u8 k1, .int .u8 k2, .int .u8 k3] := rfl
  have e1 : [Value.int .i64 x, .int .i64 y, .int .i64 c, .slice A n cap].toArray = #[Value.int .i64 x, .int .i64 y, .int .i64 c, .slice A n cap] := rfl
  rw [e1] at B0 B1
  rw [e0] at B1
  have HL := hide H0
  have HC := hide (fun w => Bcheck_any x y c A n cap mode k0 k1 k2 k3 w)
  rw [h] at HC
  obtain ⟨_, a0, a1, a2, a3, _, _, _, _⟩ := B0.four
  obtain ⟨_, g0, g1, g2, g3, g4⟩ := B1.five
  have k1 : (z != 0) = true := by simpa using hz
  clear H0 B1 B0 e0 e1 h hz
  go_enter Try.func17, Try.ntmps17
  go_wp2_with fail
  refine (HC.out _).mono ?_
  rintro e w1 ⟨rfl, hb⟩
  have L1 := hide (HL.out.trans (hb.mono HL.out.size))
  clear hb a0 a1 a2 a3 g0 g1 g2 g3 g4
  go_wp2_with fail
  refine bodyPost_ret (v := .tuple #[.int .u8 0, .int .i64 z]) (by simp [results, Try.results17, go_sem]) rfl ⟨rfl, L1.out⟩

set_option maxHeartbeats 2000000 in
theorem BAt_out (x y c : Int) (A : Option Addr) (n cap : Nat) (mode k0 k1 k2 k3 px py k : Int) (w : World) (h : bcheckZ x y c n mode = 0) (hk : ¬ (0 ≤ k ∧ k < c)) :
    Calls Try.prog 17 #[.agg #[.int .i64 x, .int .i64 y, .int .i64 c, .slice A n cap], .agg #[.int .i64 mode, .int .u8 k0, .int .u8 k1, .int .u8 k2, .int .u8 k3], .int .i64 px, .int .i64 py, .int .i64 k] w (Says w (.tuple #[.int .u8 0, .int .i64 11])) := by
  have H0 := below_alloc2 w (.cells #[.int .i64 x, .int .i64 y, .int .i64 c, .slice A n cap] 24) (.cells #[.int .i64 mode, .int .u8 k0, .int .u8 k1, .int .u8 k2, .int .u8 k3] 41)
  have B0 := (Bx.at (w := w) (g := w.heap.size) [.int .i64 x, .int .i64 y, .int .i64 c, .slice A n cap] 24 rfl).alloc (.cells #[.int .i64 mode, .int .u8 k0, .int .u8 k1, .int .u8 k2, .int .u8 k3] 41)
  have B1 := Bx.at (w := w.alloc (.cells #[.int .i64 x, .int .i64 y, .int .i64 c, .slice A n cap] 24)) (g := w.heap.size + 1) [.int .i64 mode, .int .u8 k0, .int .u8 k1, .int .u8 k2, .int .u8 k3] 41 (by simp)
  have e0 : [Value.int .i64 mode, .int .u8 k0, .int .u8 k1, .int .u8 k2, .int .u8 k3].toArray = #[Value.int .i64 mode, .int .u8 k0, .int .u8 k1, .int .u8 k2, .int .u8 k3] := rfl
  have e1 : [Value.int .i64 x, .int .i64 y, .int .i64 c, .slice A n cap].toArray = #[Value.int .i64 x, .int .i64 y, .int .i64 c, .slice A n cap] := rfl
  rw [e1] at B0 B1
  rw [e0] at B1
  have HL := hide H0
  have HC := hide (fun w => Bcheck_any x y c A n cap mode k0 k1 k2 k3 w)
  rw [h] at HC
  have HB0 := hide B0
  obtain ⟨_, a0, a1, a2, a3, _, _, _, _⟩ := B0.four
  obtain ⟨_, g0, g1, g2, g3, g4⟩ := B1.five
  clear H0 B1 B0 e0 e1 h
  by_cases hlt : k < 0
  · clear hk
    go_enter Try.func17, Try.ntmps17
    go_wp2_with fail
    refine (HC.out _).mono ?_
    rintro e w1 ⟨rfl, hb⟩
    have L1 := hide (HL.out.trans (hb.mono HL.out.size))
    clear hb a0 a1 a2 a3 g0 g1 g2 g3 g4
    go_wp2_with fail
    refine bodyPost_ret (v := .tuple #[.int .u8 0, .int .i64 11]) (by simp [results, Try.results17, go_sem]) rfl ⟨rfl, L1.out⟩
  · have hge : ¬ k < c := fun q => hk ⟨by omega, q⟩
    clear hk
    go_enter Try.func17, Try.ntmps17
    go_wp2_with fail
    refine (HC.out _).mono ?_
    rintro e w1 ⟨rfl, hb⟩
    have L1 := hide (HL.out.trans (hb.mono HL.out.size))
    have C0 := hide (HB0.out.below hb)
    clear hb a0 a1 a2 a3 g0 g1 g2 g3 g4
    obtain ⟨_, a0, a1, a2, a3, _, _, _, _⟩ := C0.out.four
    go_wp2_with fail
    refine bodyPost_ret (v := .tuple #[.int .u8 0, .int .i64 11]) (by simp [results, Try.results17, go_sem]) rfl ⟨rfl, L1.out⟩

theorem col_cell {w : World} {g : Nat} {m : Value} {k0 k1 k2 k3 : Int} (h : Bx w g [m, .int .u8 k0, .int .u8 k1, .int .u8 k2, .int .u8 k3]) (K : Nat) (hK : K < 4) : w.cell? ⟨g, 1 + K, none⟩ = some (.int .u8 ([k0, k1, k2, k3].getD K 0)) := by
  obtain ⟨h0, _, c1, c2, c3, c4⟩ := h.five
  rcases (show K = 0 ∨ K = 1 ∨ K = 2 ∨ K = 3 by omega) with rfl | rfl | rfl | rfl
  · exact c1
  · exact c2
  · exact c3
  · exact c4

set_option maxHeartbeats 4000000 in
theorem BAt_yes (x y c : Int) (A : Option Addr) (n cap : Nat) (xs : List Int) (mode k0 k1 k2 k3 px py k : Int) (w : World) (h : bcheckZ x y c n mode = 0) (hx : isI64 px) (hy : isI64 py) (hB : BY w A n cap xs) (hk : 0 ≤ k ∧ k < c) :
    Calls Try.prog 17 #[.agg #[.int .i64 x, .int .i64 y, .int .i64 c, .slice A n cap], .agg #[.int .i64 mode, .int .u8 k0, .int .u8 k1, .int .u8 k2, .int .u8 k3], .int .i64 px, .int .i64 py, .int .i64 k] w (Says w (.tuple #[.int .u8 ((pixL x y c xs mode [k0, k1, k2, k3] px py).getD k.toNat 0), .int .i64 0])) := by
  have H0 := below_alloc2 w (.cells #[.int .i64 x, .int .i64 y, .int .i64 c, .slice A n cap] 24) (.cells #[.int .i64 mode, .int .u8 k0, .int .u8 k1, .int .u8 k2, .int .u8 k3] 41)
  have B0 := (Bx.at (w := w) (g := w.heap.size) [.int .i64 x, .int .i64 y, .int .i64 c, .slice A n cap] 24 rfl).alloc (.cells #[.int .i64 mode, .int .u8 k0, .int .u8 k1, .int .u8 k2, .int .u8 k3] 41)
  have B1 := Bx.at (w := w.alloc (.cells #[.int .i64 x, .int .i64 y, .int .i64 c, .slice A n cap] 24)) (g := w.heap.size + 1) [.int .i64 mode, .int .u8 k0, .int .u8 k1, .int .u8 k2, .int .u8 k3] 41 (by simp)
  have e0 : [Value.int .i64 mode, .int .u8 k0, .int .u8 k1, .int .u8 k2, .int .u8 k3].toArray = #[Value.int .i64 mode, .int .u8 k0, .int .u8 k1, .int .u8 k2, .int .u8 k3] := rfl
  have e1 : [Value.int .i64 x, .int .i64 y, .int .i64 c, .slice A n cap].toArray = #[Value.int .i64 x, .int .i64 y, .int .i64 c, .slice A n cap] := rfl
  rw [e1] at B0 B1
  rw [e0] at B1
  have HL := hide H0
  have HC := hide (fun w => Bcheck_any x y c A n cap mode k0 k1 k2 k3 w)
  rw [h] at HC
  have HP := hide (fun w => Bplace_any x y c A n cap mode k0 k1 k2 k3 px py w h hx hy)
  have HB1 := hide B1
  have HB0 := hide B0
  clear H0 B1 B0 e0 e1
  rw [pixL_get h px py k hk.1 hk.2]
  obtain ⟨hc, hm⟩ := bcheck_zero h
  obtain ⟨_, _, _, _, c1⟩ := size_ok hc
  obtain ⟨_, _, ⟨r1, r2⟩, n1⟩ := has_in (bat_has h px py k hk)
  have r1' : 0 ≤ bat x y c mode px py := r1
  have r2' : bat x y c mode px py + c ≤ n := r2
  generalize bat x y c mode px py = F at *
  obtain ⟨K, hK⟩ : ∃ K : Nat, k = K := ⟨k.toNat, by omega⟩
  subst hK
  have e3 : ((K : Int)).toNat = K := by omega
  rw [e3]
  have k4 : K < 4 := by omega
  have kl : ¬ (K : Int) < 0 := by omega
  have kc : (K : Int) < c := hk.2
  obtain ⟨_, a0, a1, a2, a3, _, _, _, _⟩ := HB0.out.four
  obtain ⟨_, g0, g1, g2, g3, g4⟩ := HB1.out.five
  cases hb : bthere x y mode px py
  · rw [hb] at HP
    rw [if_neg (by decide)]
    have k5 : (K : Int) < 4 := by omega
    obtain ⟨v, hv⟩ : ∃ v, [k0, k1, k2, k3].getD K 0 = v := ⟨_, rfl⟩
    rw [hv]
    have HV := Lib.hid hv
    clear hv
    clear hb h hc hm c1 r1 r2 n1 r1' r2' hB hx hy
    go_enter Try.func17, Try.ntmps17
    go_wp2_with fail
    refine (HC.out _).mono ?_
    rintro e w1 ⟨rfl, hb⟩
    have L1 := hide (HL.out.trans (hb.mono HL.out.size))
    have C0 := hide (HB0.out.below hb)
    have C1 := hide (HB1.out.below hb)
    clear hb a0 a1 a2 a3 g0 g1 g2 g3 g4
    obtain ⟨_, a0, a1, a2, a3, _, _, _, _⟩ := C0.out.four
    obtain ⟨_, g0, g1, g2, g3, g4⟩ := C1.out.five
    go_wp2_with fail
    refine (HP.out _).mono ?_
    rintro e w2 ⟨rfl, hb⟩
    have L2 := hide (L1.out.trans (hb.mono L1.out.size))
    have D1 := hide (C1.out.below hb)
    clear hb a0 a1 a2 a3 g0 g1 g2 g3 g4
    have hcell := col_cell D1.out K k4
    rw [HV.out] at hcell
    go_wp2_with fail
    refine bodyPost_ret (v := .tuple #[.int .u8 v, .int .i64 0]) (by simp [results, Try.results17, go_sem]) rfl ⟨rfl, L2.out⟩
  · rw [hb] at HP
    rw [if_pos rfl]
    obtain ⟨bb, o, rfl, hlt, hcs⟩ := hB.2.2.2.2 (by omega)
    have hcell := hcs (F + K).toNat (by omega)
    generalize xs.getD (F + K).toNat 0 = v at hcell ⊢
    have w4 : IntKind.i64.wrap (F + K) = F + K := IntWalk.i64_in _ (by omega)
    have i0 : 0 ≤ F + (K : Int) := by omega
    have i1 : F + (K : Int) < (n : Int) := by omega
    clear hb h hc hm c1 r1 r2 n1 r1' r2' hB hx hy hcs
    go_enter Try.func17, Try.ntmps17
    go_wp2_with fail
    refine (HC.out _).mono ?_
    rintro e w1 ⟨rfl, hb⟩
    have L1 := hide (HL.out.trans (hb.mono HL.out.size))
    have C0 := hide (HB0.out.below hb)
    have C1 := hide (HB1.out.below hb)
    clear hb a0 a1 a2 a3 g0 g1 g2 g3 g4
    obtain ⟨_, a0, a1, a2, a3, _, _, _, _⟩ := C0.out.four
    obtain ⟨_, g0, g1, g2, g3, g4⟩ := C1.out.five
    go_wp2_with fail
    refine (HP.out _).mono ?_
    rintro e w2 ⟨rfl, hb⟩
    have L2 := hide (L1.out.trans (hb.mono L1.out.size))
    have D0 := hide (C0.out.below hb)
    have hcell2 := (L2.out.cell (p := ⟨bb, o + (F + (K : Int)).toNat, none⟩) hlt).trans hcell
    clear hb a0 a1 a2 a3 g0 g1 g2 g3 g4 hcell
    obtain ⟨_, a0, a1, a2, a3, _, _, _, _⟩ := D0.out.four
    go_wp2_with fail
    refine bodyPost_ret (v := .tuple #[.int .u8 v, .int .i64 0]) (by simp [results, Try.results17, go_sem]) rfl ⟨rfl, L2.out⟩
end Go.Proofs.Ytbogckpnajjlmaa
