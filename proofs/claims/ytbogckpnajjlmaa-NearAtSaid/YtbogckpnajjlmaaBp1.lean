/-
Contracts of border's check and place. No statement is proved here.
-/
import Derived.Test.YtbogckpnajjlmaaBp0
import Derived.Test.YtbogckpnajjlmaaImg2
import Derived.Test.YtbogckpnajjlmaaInts
namespace Go.Proofs.Ytbogckpnajjlmaa
open Go.RowKit

theorem Bx.five {w : World} {g : Nat} {x0 x1 x2 x3 x4 : Value} (h : Bx w g [x0, x1, x2, x3, x4]) : g < w.heap.size ∧ w.cell? ⟨g, 0, none⟩ = some x0 ∧ w.cell? ⟨g, 1, none⟩ = some x1 ∧ w.cell? ⟨g, 2, none⟩ = some x2 ∧ w.cell? ⟨g, 3, none⟩ = some x3 ∧ w.cell? ⟨g, 4, none⟩ = some x4 :=
  ⟨h.1, (h.2 0 _ rfl).1, (h.2 1 _ rfl).1, (h.2 2 _ rfl).1, (h.2 3 _ rfl).1, (h.2 4 _ rfl).1⟩
set_option maxHeartbeats 1000000 in
theorem Bcheck_any (x y c : Int) (A : Option Addr) (n cap : Nat) (mode k0 k1 k2 k3 : Int) (w : World) : Calls Try.prog 49 #[.agg #[.int .i64 x, .int .i64 y, .int .i64 c, .slice A n cap], .agg #[.int .i64 mode, .int .u8 k0, .int .u8 k1, .int .u8 k2, .int .u8 k3]] w (Says w (.int .i64 (bcheckZ x y c n mode))) := by
  have H0 := below_alloc2 w (.cells #[.int .i64 x, .int .i64 y, .int .i64 c, .slice A n cap] 24) (.cells #[.int .i64 mode, .int .u8 k0, .int .u8 k1, .int .u8 k2, .int .u8 k3] 41)
  have B0 := (Bx.at (w := w) (g := w.heap.size) [.int .i64 x, .int .i64 y, .int .i64 c, .slice A n cap] 24 rfl).alloc (.cells #[.int .i64 mode, .int .u8 k0, .int .u8 k1, .int .u8 k2, .int .u8 k3] 41)
  have B1 := Bx.at (w := w.alloc (.cells #[.int .i64 x, .int .i64 y, .int .i64 c, .slice A n cap] 24)) (g := w.heap.size + 1) [.int .i64 mode, .int .u8 k0, .int .u8 k1, .int .u8 k2, .int .u8 k3] 41 (by simp)
  have e0 : [Value.int .i64 mode, .int .u8 k0, .int .u8 k1, .int .u8 k2, .int .u8 k3].toArray = #[Value.int .i64 mode, .int .u8 k0, .int .u8 k1, .int .u8 k2, .int .u8 k3] := rfl
  have e1 : [Value.int .i64 x, .int .i64 y, .int .i64 c, .slice A n cap].toArray = #[Value.int .i64 x, .int .i64 y, .int .i64 c, .slice A n cap] := rfl
  rw [e1] at B0 B1
  rw [e0] at B1
  have HL := hide H0
  have HC := hide (fun w => Check_any x y c A n cap w)
  have HK := hide (fun w => BCheck_any mode k0 k1 k2 k3 w)
  have HB1 := hide B1
  have HB0 := hide B0
  clear H0 B1 B0 e0 e1
  unfold bcheckZ
  by_cases k : checkZ x y c n = 0
  · rw [if_neg (by simpa using k)]
    rw [k] at HC
    obtain ⟨_, a0, a1, a2, a3, _, _, _, _⟩ := HB0.out.four
    go_enter Try.func49, Try.ntmps49
    go_wp2_with fail
    refine (HC.out _).mono ?_
    rintro e w1 ⟨rfl, hb⟩
    have L1 := hide (HL.out.trans (hb.mono HL.out.size))
    obtain ⟨_, g0, g1, g2, g3, g4⟩ := (HB1.out.below hb).five
    clear hb a0 a1 a2 a3
    go_wp2_with fail
    refine (HK.out _).mono ?_
    rintro e w2 ⟨rfl, hb⟩
    have L2 := hide (L1.out.trans (hb.mono L1.out.size))
    clear hb g0 g1 g2 g3 g4
    go_wp2_with fail
    go_ret
    exact ⟨rfl, L2.out⟩
  · rw [if_pos k]
    obtain ⟨z, hz⟩ : ∃ z, checkZ x y c n = z := ⟨_, rfl⟩
    rw [hz] at HC k ⊢
    have k1 : (z != 0) = true := by simpa using k
    obtain ⟨_, a0, a1, a2, a3, _, _, _, _⟩ := HB0.out.four
    clear hz k
    go_enter Try.func49, Try.ntmps49
    go_wp2_with fail
    refine (HC.out _).mono ?_
    rintro e w1 ⟨rfl, hb⟩
    have L1 := hide (HL.out.trans (hb.mono HL.out.size))
    clear hb a0 a1 a2 a3
    go_wp2_with fail
    go_ret
    exact ⟨rfl, L1.out⟩

set_option maxHeartbeats 2000000 in
theorem Bplace_any (x y c : Int) (A : Option Addr) (n cap : Nat) (mode k0 k1 k2 k3 px py : Int) (w : World) (h : bcheckZ x y c n mode = 0) (hx : isI64 px) (hy : isI64 py) :
    Calls Try.prog 50 #[.agg #[.int .i64 x, .int .i64 y, .int .i64 c, .slice A n cap], .agg #[.int .i64 mode, .int .u8 k0, .int .u8 k1, .int .u8 k2, .int .u8 k3], .int .i64 px, .int .i64 py] w (Told2 w (bat x y c mode px py) (bthere x y mode px py)) := by
  have H0 := below_alloc2 w (.cells #[.int .i64 x, .int .i64 y, .int .i64 c, .slice A n cap] 24) (.cells #[.int .i64 mode, .int .u8 k0, .int .u8 k1, .int .u8 k2, .int .u8 k3] 41)
  have B0 := (Bx.at (w := w) (g := w.heap.size) [.int .i64 x, .int .i64 y, .int .i64 c, .slice A n cap] 24 rfl).alloc (.cells #[.int .i64 mode, .int .u8 k0, .int .u8 k1, .int .u8 k2, .int .u8 k3] 41)
  have B1 := Bx.at (w := w.alloc (.cells #[.int .i64 x, .int .i64 y, .int .i64 c, .slice A n cap] 24)) (g := w.heap.size + 1) [.int .i64 mode, .int .u8 k0, .int .u8 k1, .int .u8 k2, .int .u8 k3] 41 (by simp)
  have e0 : [Value.int .i64 mode, .int .u8 k0, .int .u8 k1, .int .u8 k2, .int .u8 k3].toArray = #[Value.int .i64 mode, .int .u8 k0, .int .u8 k1, .int .u8 k2, .int .u8 k3] := rfl
  have e1 : [Value.int .i64 x, .int .i64 y, .int .i64 c, .slice A n cap].toArray = #[Value.int .i64 x, .int .i64 y, .int .i64 c, .slice A n cap] := rfl
  rw [e1] at B0 B1
  rw [e0] at B1
  have HL := hide H0
  have HB1 := hide B1
  have HB0 := hide B0
  clear H0 B1 B0 e0 e1
  obtain ⟨hc, hm⟩ := bcheck_zero h
  obtain ⟨x1, x2, y1, y2, c1⟩ := size_ok hc
  obtain ⟨r1, r2, r3, r4⟩ := has_in (bat_has h px py 0 (by omega))
  have HX := hide (fun w => Index_any mode px x (by omega) hx w)
  have HY := hide (fun w => Index_any mode py y (by omega) hy w)
  unfold bat bthere
  generalize idxV mode px x = i at *
  generalize idxV mode py y = j at *
  generalize idxB mode px x = b1 at *
  generalize idxB mode py y = b2 at *
  have w1 : wrap64 (j * x) = j * x := IntWalk.wrap64_in _ (by omega)
  have w2 : wrap64 (j * x + i) = j * x + i := IntWalk.wrap64_in _ (by omega)
  have w3 : wrap64 ((j * x + i) * c) = (j * x + i) * c := IntWalk.wrap64_in _ (by omega)
  obtain ⟨_, a0, a1, a2, a3, _, _, _, _⟩ := HB0.out.four
  obtain ⟨_, g0, g1, g2, g3, g4⟩ := HB1.out.five
  obtain ⟨p, hp⟩ : ∃ p, j * x = p := ⟨_, rfl⟩
  rw [hp] at w1 w2 w3
  obtain ⟨q, hq⟩ : ∃ q, p + i = q := ⟨_, rfl⟩
  rw [hq] at w2 w3
  obtain ⟨r, hr⟩ : ∃ r, q * c = r := ⟨_, rfl⟩
  rw [hr] at w3
  have e1 : wrap64 (j * x) = p := by rw [hp]; exact w1
  have e2 : wrap64 (p + i) = q := by rw [hq]; exact w2
  have e3 : wrap64 (q * c) = r := by rw [hr]; exact w3
  rw [show (j * x + i) * c = r by rw [hp, hq, hr]]
  clear h hc hm x1 x2 y1 y2 c1 r1 r2 r3 r4 w1 w2 w3 hp hq hr hx hy
  go_enter Try.func50, Try.ntmps50
  go_wp2_with fail
  refine (HX.out _).mono ?_
  rintro e w1 ⟨rfl, hb⟩
  have L1 := hide (HL.out.trans (hb.mono HL.out.size))
  have C0 := hide (HB0.out.below hb)
  have C1 := hide (HB1.out.below hb)
  clear hb a0 a1 a2 a3 g0 g1 g2 g3 g4
  obtain ⟨_, a0, a1, a2, a3, _, _, _, _⟩ := C0.out.four
  obtain ⟨_, g0, g1, g2, g3, g4⟩ := C1.out.five
  go_wp2_with fail
  refine (HY.out _).mono ?_
  rintro e w2 ⟨rfl, hb⟩
  have L2 := hide (L1.out.trans (hb.mono L1.out.size))
  have D0 := hide (C0.out.below hb)
  clear hb a0 a1 a2 a3 g0 g1 g2 g3 g4
  obtain ⟨_, a0, a1, a2, a3, _, _, _, _⟩ := D0.out.four
  cases b1
  all_goals
    go_wp2_with fail
    refine bodyPost_ret (v := .tuple #[.int .i64 r, .bool _]) (by simp [results, Try.results50, go_sem, e3]) rfl ⟨rfl, L2.out⟩
end Go.Proofs.Ytbogckpnajjlmaa
