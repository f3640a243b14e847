/-
BorderPixels' walk. No statement is proved here.
-/
import Derived.Test.YtbogckpnajjlmaaBp2
import Derived.Test.YtbogckpnajjlmaaBp4
import Derived.Test.YtbogckpnajjlmaaAl8
namespace Go.Proofs.Ytbogckpnajjlmaa
open Go.RowKit

def BpK (w : World) (x y c : Int) (A : Option Addr) (n cap : Nat) (mode k0 k1 k2 k3 px py k : Int) (w' : World) : Prop :=
  Bx w' w.heap.size [.int .i64 x, .int .i64 y, .int .i64 c, .slice A n cap] ∧ Bx w' (w.heap.size + 1) [.int .i64 mode, .int .u8 k0, .int .u8 k1, .int .u8 k2, .int .u8 k3] ∧ Bx w' (w.heap.size + 1 + 1) [.int .i64 px, .int .i64 py, .int .i64 k] ∧ Below w.heap.size w w'
theorem BpK.below {w w1 w2 : World} {x y c : Int} {A : Option Addr} {n cap : Nat} {mode k0 k1 k2 k3 px py k : Int} (h : BpK w x y c A n cap mode k0 k1 k2 k3 px py k w1) (hb : Below w1.heap.size w1 w2) : BpK w x y c A n cap mode k0 k1 k2 k3 px py k w2 :=
  ⟨h.1.below hb, h.2.1.below hb, h.2.2.1.below hb, h.2.2.2.trans (hb.mono h.2.2.2.size)⟩
theorem Bx.three {w : World} {g : Nat} {x0 x1 x2 : Value} (h : Bx w g [x0, x1, x2]) : g < w.heap.size ∧ w.cell? ⟨g, 0, none⟩ = some x0 ∧ w.cell? ⟨g, 1, none⟩ = some x1 ∧ w.cell? ⟨g, 2, none⟩ = some x2 := ⟨h.1, (h.2 0 _ rfl).1, (h.2 1 _ rfl).1, (h.2 2 _ rfl).1⟩
/-- a pixel's bytes, and no code -/
def PixE (w : World) (L : Nat) (ls : List Int) (e : Ending) (w' : World) : Prop := ∃ A' c', e = .returned (.tuple #[.slice A' L c', .int .i64 0]) ∧ BY w' A' L c' ls ∧ Below w.heap.size w w'
theorem BPixel_by (x y c : Int) (A : Option Addr) (n cap : Nat) (xs : List Int) (mode k0 k1 k2 k3 px py : Int) (w : World) (h : bcheckZ x y c n mode = 0) (hx : isI64 px) (hy : isI64 py) (hB : BY w A n cap xs) (hk : ∀ z ∈ [k0, k1, k2, k3], 0 ≤ z ∧ z ≤ 255) :
    Calls Try.prog 18 #[.agg #[.int .i64 x, .int .i64 y, .int .i64 c, .slice A n cap], .agg #[.int .i64 mode, .int .u8 k0, .int .u8 k1, .int .u8 k2, .int .u8 k3], .int .i64 px, .int .i64 py] w (PixE w c.toNat (pixL x y c xs mode [k0, k1, k2, k3] px py)) := by
  refine (BPixel_yes x y c A n cap xs mode k0 k1 k2 k3 px py w h hx hy hB hk).mono ?_
  rintro e w' ⟨v, rfl, ho, hb⟩
  have hl := pixL_length h (by rw [hB.1]) (ks := [k0, k1, k2, k3]) rfl px py
  obtain ⟨A', c', rfl, hY⟩ := BY.ofOwn ho (pixL_byte hB.2.2.2.1 hk px py)
  have e : (pixL x y c xs mode [k0, k1, k2, k3] px py).length = c.toNat := by omega
  rw [e] at hY ⊢
  exact ⟨A', c', rfl, hY, hb⟩

set_option maxHeartbeats 4000000 in
theorem BorderPixels_walk (x y c : Int) (A : Option Addr) (n cap : Nat) (xs : List Int) (mode k0 k1 k2 k3 px py k : Int) (w : World) (hB : BY w A n cap xs) (hk : ∀ z ∈ [k0, k1, k2, k3], 0 ≤ z ∧ z ≤ 255) (hx : isI64 px) (hy : isI64 py) (hkk : isI64 k) :
    Calls Try.prog 5 #[.agg #[.int .i64 x, .int .i64 y, .int .i64 c, .slice A n cap], .agg #[.int .i64 mode, .int .u8 k0, .int .u8 k1, .int .u8 k2, .int .u8 k3], .agg #[.int .i64 px, .int .i64 py, .int .i64 k]] w (Says w (.bool true)) := by
  have H0 := below_alloc3 w (.cells #[.int .i64 x, .int .i64 y, .int .i64 c, .slice A n cap] 24) (.cells #[.int .i64 mode, .int .u8 k0, .int .u8 k1, .int .u8 k2, .int .u8 k3] 41) (.cells #[.int .i64 px, .int .i64 py, .int .i64 k] 42)
  have B0 := ((Bx.at (w := w) (g := w.heap.size) [.int .i64 x, .int .i64 y, .int .i64 c, .slice A n cap] 24 rfl).alloc (.cells #[.int .i64 mode, .int .u8 k0, .int .u8 k1, .int .u8 k2, .int .u8 k3] 41)).alloc (.cells #[.int .i64 px, .int .i64 py, .int .i64 k] 42)
  have B1 := (Bx.at (w := w.alloc (.cells #[.int .i64 x, .int .i64 y, .int .i64 c, .slice A n cap] 24)) (g := w.heap.size + 1) [.int .i64 mode, .int .u8 k0, .int .u8 k1, .int .u8 k2, .int .u8 k3] 41 (by simp)).alloc (.cells #[.int .i64 px, .int .i64 py, .int .i64 k] 42)
  have B2 := Bx.at (w := (w.alloc (.cells #[.int .i64 x, .int .i64 y, .int .i64 c, .slice A n cap] 24)).alloc (.cells #[.int .i64 mode, .int .u8 k0, .int .u8 k1, .int .u8 k2, .int .u8 k3] 41)) (g := w.heap.size + 1 + 1) [.int .i64 px, .int .i64 py, .int .i64 k] 42 (by simp)
  have e0 : [Value.int .i64 mode, .int .u8 k0, .int .u8 k1, .int .u8 k2, .int .u8 k3].toArray = #[Value.int .i64 mode, .int .u8 k0, .int .u8 k1, .int .u8 k2, .int .u8 k3] := rfl
  have e1 : [Value.int .i64 x, .int .i64 y, .int .i64 c, .slice A n cap].toArray = #[Value.int .i64 x, .int .i64 y, .int .i64 c, .slice A n cap] := rfl
  have e2 : [Value.int .i64 px, .int .i64 py, .int .i64 k].toArray = #[Value.int .i64 px, .int .i64 py, .int .i64 k] := rfl
  rw [e1, e0, e2] at B0 B2
  rw [e1, e0, e2] at B1
  have HF := hide (fun w => Few_any x y c A n cap 20000 w)
  have HR := hide (fun w => RCheck_any x y c A n cap w)
  have HA := hide alive8_any
  have HK := hide (show BpK w x y c A n cap mode k0 k1 k2 k3 px py k _ from ⟨B0, B1, B2, H0⟩)
  clear H0 B0 B1 B2 e0 e1 e2
  have wk : IntKind.i64.wrap k = k := IntWalk.i64_in _ hkk
  by_cases hn : (n : Int) ≤ 20000
  · rw [decide_eq_true hn] at HF
    obtain ⟨z, hz⟩ : ∃ z, bcheckZ x y c n mode = z := ⟨_, rfl⟩
    by_cases hz0 : z = 0
    · subst hz0
      obtain ⟨hc, hm⟩ := bcheck_zero hz
      rw [hc] at HR
      have HP := hide (fun w (h : BY w A n cap xs) => BPixel_by x y c A n cap xs mode k0 k1 k2 k3 px py w hz hx hy h hk)
      have HG := hide (fun w (h : BY w A n cap xs) (j : Nat) (hj : (j : Int) < c) => RBAt_yes x y c A n cap xs mode k0 k1 k2 k3 px py j w hz hx hy h ⟨by omega, hj⟩)
      have HV := hide (fun w' (hb : Below w.heap.size w w') => hB.below hb)
      obtain ⟨C, hC⟩ : ∃ C : Nat, c = C := ⟨c.toNat, by have := (size_ok hc).2.2.2.2; omega⟩
      have m1 : ¬ mode < 0 := by omega
      have m2 : ¬ 3 < mode := by omega
      have hC4 : C ≤ 4 := by have := (size_ok hc).2.2.2.2; omega
      have eC : c.toNat = C := by omega
      rw [eC] at HP
      by_cases hkc : 0 ≤ k ∧ k < c
      · skip
        have HT := hide (fun w (h : BY w A n cap xs) => BAt_yes x y c A n cap xs mode k0 k1 k2 k3 px py k w hz hx hy h hkc)
        have j1 : ¬ k < 0 := by omega
        have j2 : k < c := hkc.2
        have j3 : k.toNat < C := by omega
        generalize pixL x y c xs mode [k0, k1, k2, k3] px py = ls at *
        obtain ⟨kn, hkn⟩ : ∃ kn : Nat, k = kn := ⟨k.toNat, by omega⟩
        subst hkn
        rw [Int.toNat_natCast] at HT j3
        obtain ⟨v, hv⟩ : ∃ v, ls.getD kn 0 = v := ⟨_, rfl⟩
        rw [hv] at HT
        have HVV := Lib.hid hv
        clear hv
        clear hB hk hx hy hkk hz hc hm hn hkc eC
        subst hC
        obtain ⟨_, a0, a1, a2, a3, _, _, _, _⟩ := HK.out.1.four
        obtain ⟨_, g0, g1, g2, g3, g4⟩ := HK.out.2.1.five
        obtain ⟨_, p0, p1, p2⟩ := HK.out.2.2.1.three
        go_enter Try.func5, Try.ntmps5
        go_wp2_with fail
        refine (HF.out _).mono ?_
        rintro e w1 ⟨rfl, hb⟩
        have K1 := hide (HK.out.below hb)
        clear hb a0 a1 a2 a3 g0 g1 g2 g3 g4 p0 p1 p2
        obtain ⟨_, a0, a1, a2, a3, _, _, _, _⟩ := K1.out.1.four
        obtain ⟨_, g0, g1, g2, g3, g4⟩ := K1.out.2.1.five
        obtain ⟨_, p0, p1, p2⟩ := K1.out.2.2.1.three
        go_wp2_with fail
        refine (HT.out _ (HV.out _ K1.out.2.2.2)).mono ?_
        rintro e w1 ⟨rfl, hb⟩
        have K2 := hide (K1.out.below hb)
        clear hb a0 a1 a2 a3 g0 g1 g2 g3 g4 p0 p1 p2
        obtain ⟨_, a0, a1, a2, a3, _, _, _, _⟩ := K2.out.1.four
        obtain ⟨_, g0, g1, g2, g3, g4⟩ := K2.out.2.1.five
        obtain ⟨_, p0, p1, p2⟩ := K2.out.2.2.1.three
        go_wp2_with fail
        refine (HP.out _ (HV.out _ K2.out.2.2.2)).mono ?_
        rintro e w3 ⟨A', c', rfl, hY, hb⟩
        have K3 := hide (K2.out.below hb)
        have HY := hide hY
        clear hb hY a0 a1 a2 a3 g0 g1 g2 g3 g4 p0 p1 p2
        obtain ⟨_, a0, a1, a2, a3, _, _, _, _⟩ := K3.out.1.four
        obtain ⟨_, g0, g1, g2, g3, g4⟩ := K3.out.2.1.five
        obtain ⟨_, p0, p1, p2⟩ := K3.out.2.2.1.three
        go_wp2_with fail
        refine (HR.out _).mono ?_
        rintro e w4 ⟨rfl, hb⟩
        have K4 := hide (K3.out.below hb)
        have HY4 := hide (HY.out.below hb)
        clear hb HY a0 a1 a2 a3 g0 g1 g2 g3 g4 p0 p1 p2
        obtain ⟨_, a0, a1, a2, a3, _, _, _, _⟩ := K4.out.1.four
        obtain ⟨_, g0, g1, g2, g3, g4⟩ := K4.out.2.1.five
        obtain ⟨_, p0, p1, p2⟩ := K4.out.2.2.1.three
        go_wp2_with fail
        go_loopw [13] (fun i wr => ∃ q : Nat, q ≤ C ∧ i = .int .i64 q ∧ BpK w x y C A n cap mode k0 k1 k2 k3 px py kn wr ∧ BY wr A' C c' ls) (fun i _ => C - (intOf i).toNat)
        case atStart => exact ⟨0, Nat.zero_le _, rfl, K4.out, HY4.out⟩
        case round =>
          clear a0 a1 a2 a3 g0 g1 g2 g3 g4 p0 p1 p2
          obtain ⟨q, hq, rfl, hK, hY⟩ := hrel
          have KK := hide hK
          have HY := hide hY
          clear hK hY
          obtain ⟨_, a0, a1, a2, a3, _, _, _, _⟩ := KK.out.1.four
          obtain ⟨_, g0, g1, g2, g3, g4⟩ := KK.out.2.1.five
          obtain ⟨_, p0, p1, p2⟩ := KK.out.2.2.1.three
          by_cases hlt : q < C
          · obtain ⟨bb, o, rfl, hbz, hcs⟩ := HY.out.2.2.2.2 (by omega)
            have hcell := hcs q hlt
            have HGq := hide (fun w h => HG.out w h q (by omega))
            rw [Int.toNat_natCast] at HGq
            obtain ⟨u, hu⟩ : ∃ u, ls.getD q 0 = u := ⟨_, rfl⟩
            rw [hu] at hcell HGq
            clear hu hcs
            have q0 : (0 : Int) ≤ (q : Int) := by omega
            have q1 : (q : Int) < (C : Int) := by omega
            have HGr := hide (HGq.out _ (HV.out _ KK.out.2.2.2))
            go_wp2_with fail
            replace a0 := cell_regrown a0
            replace a1 := cell_regrown a1
            replace a2 := cell_regrown a2
            replace a3 := cell_regrown a3
            replace g0 := cell_regrown g0
            replace g1 := cell_regrown g1
            replace g2 := cell_regrown g2
            replace g3 := cell_regrown g3
            replace g4 := cell_regrown g4
            replace p0 := cell_regrown p0
            replace p1 := cell_regrown p1
            replace p2 := cell_regrown p2
            replace hcell := cell_regrown hcell
            refine wp_region_quiet_below (by kernel_rfl) (by kernel_rfl) ?_
            iterate 13 (go_big_quiet_step ((go_at_call 21; exact Calls.regrown_of (HGq.out _ (HV.out _ (KK.out.2.2.2.trans ((below_regrown _ _ _).mono KK.out.2.2.2.size)))))))
            refine wpQuiet_nil ?_
            rintro wz ⟨pz, hz⟩
            have hbz := below_regrown _ _ _ |> fun b => (hz ▸ b : Below _ _ wz)
            have KZ := hide (KK.out.below hbz)
            have HZ := hide (HY.out.below hbz)
            clear hz hbz
            go_wp2_with fail
            go_roundw
            case rel => exact ⟨q + 1, by omega, by go_num, KZ.out, HZ.out⟩
            case measure => simp [intOf]; omega
          · obtain rfl : q = C := by omega
            obtain ⟨bb, o, rfl, hbz, hcs⟩ := HY.out.2.2.2.2 (by omega)
            have hcell := hcs kn j3
            rw [HVV.out] at hcell
            clear hcs
            have q0 : (0 : Int) ≤ (kn : Int) := by omega
            go_wp2_with fail
            refine (HA.out _).mono ?_
            rintro e w9 ⟨rfl, hb⟩
            have K9 := hide (KK.out.below hb)
            clear hb
            go_wp2_with fail
            go_ret
            exact ⟨rfl, K9.out.2.2.2⟩
      · skip
        have HT := hide (fun w (_ : BY w A n cap xs) => BAt_out x y c A n cap mode k0 k1 k2 k3 px py k w hz hkc)
        generalize pixL x y c xs mode [k0, k1, k2, k3] px py = ls at *
        have HKC := hide hkc
        clear hB hk hx hy hkk hz hc hm hn hkc eC
        subst hC
        obtain ⟨_, a0, a1, a2, a3, _, _, _, _⟩ := HK.out.1.four
        obtain ⟨_, g0, g1, g2, g3, g4⟩ := HK.out.2.1.five
        obtain ⟨_, p0, p1, p2⟩ := HK.out.2.2.1.three
        go_enter Try.func5, Try.ntmps5
        go_wp2_with fail
        refine (HF.out _).mono ?_
        rintro e w1 ⟨rfl, hb⟩
        have K1 := hide (HK.out.below hb)
        clear hb a0 a1 a2 a3 g0 g1 g2 g3 g4 p0 p1 p2
        obtain ⟨_, a0, a1, a2, a3, _, _, _, _⟩ := K1.out.1.four
        obtain ⟨_, g0, g1, g2, g3, g4⟩ := K1.out.2.1.five
        obtain ⟨_, p0, p1, p2⟩ := K1.out.2.2.1.three
        go_wp2_with fail
        refine (HT.out _ (HV.out _ K1.out.2.2.2)).mono ?_
        rintro e w1 ⟨rfl, hb⟩
        have K2 := hide (K1.out.below hb)
        clear hb a0 a1 a2 a3 g0 g1 g2 g3 g4 p0 p1 p2
        obtain ⟨_, a0, a1, a2, a3, _, _, _, _⟩ := K2.out.1.four
        obtain ⟨_, g0, g1, g2, g3, g4⟩ := K2.out.2.1.five
        obtain ⟨_, p0, p1, p2⟩ := K2.out.2.2.1.three
        go_wp2_with fail
        refine (HP.out _ (HV.out _ K2.out.2.2.2)).mono ?_
        rintro e w3 ⟨A', c', rfl, hY, hb⟩
        have K3 := hide (K2.out.below hb)
        have HY := hide hY
        clear hb hY a0 a1 a2 a3 g0 g1 g2 g3 g4 p0 p1 p2
        obtain ⟨_, a0, a1, a2, a3, _, _, _, _⟩ := K3.out.1.four
        obtain ⟨_, g0, g1, g2, g3, g4⟩ := K3.out.2.1.five
        obtain ⟨_, p0, p1, p2⟩ := K3.out.2.2.1.three
        go_wp2_with fail
        refine (HR.out _).mono ?_
        rintro e w4 ⟨rfl, hb⟩
        have K4 := hide (K3.out.below hb)
        have HY4 := hide (HY.out.below hb)
        clear hb HY a0 a1 a2 a3 g0 g1 g2 g3 g4 p0 p1 p2
        obtain ⟨_, a0, a1, a2, a3, _, _, _, _⟩ := K4.out.1.four
        obtain ⟨_, g0, g1, g2, g3, g4⟩ := K4.out.2.1.five
        obtain ⟨_, p0, p1, p2⟩ := K4.out.2.2.1.three
        go_wp2_with fail
        go_loopw [13] (fun i wr => ∃ q : Nat, q ≤ C ∧ i = .int .i64 q ∧ BpK w x y C A n cap mode k0 k1 k2 k3 px py k wr ∧ BY wr A' C c' ls) (fun i _ => C - (intOf i).toNat)
        case atStart => exact ⟨0, Nat.zero_le _, rfl, K4.out, HY4.out⟩
        case round =>
          clear a0 a1 a2 a3 g0 g1 g2 g3 g4 p0 p1 p2
          obtain ⟨q, hq, rfl, hK, hY⟩ := hrel
          have KK := hide hK
          have HY := hide hY
          clear hK hY
          obtain ⟨_, a0, a1, a2, a3, _, _, _, _⟩ := KK.out.1.four
          obtain ⟨_, g0, g1, g2, g3, g4⟩ := KK.out.2.1.five
          obtain ⟨_, p0, p1, p2⟩ := KK.out.2.2.1.three
          by_cases hlt : q < C
          · obtain ⟨bb, o, rfl, hbz, hcs⟩ := HY.out.2.2.2.2 (by omega)
            have hcell := hcs q hlt
            have HGq := hide (fun w h => HG.out w h q (by omega))
            rw [Int.toNat_natCast] at HGq
            obtain ⟨u, hu⟩ : ∃ u, ls.getD q 0 = u := ⟨_, rfl⟩
            rw [hu] at hcell HGq
            clear hu hcs
            have q0 : (0 : Int) ≤ (q : Int) := by omega
            have q1 : (q : Int) < (C : Int) := by omega
            have HGr := hide (HGq.out _ (HV.out _ KK.out.2.2.2))
            go_wp2_with fail
            replace a0 := cell_regrown a0
            replace a1 := cell_regrown a1
            replace a2 := cell_regrown a2
            replace a3 := cell_regrown a3
            replace g0 := cell_regrown g0
            replace g1 := cell_regrown g1
            replace g2 := cell_regrown g2
            replace g3 := cell_regrown g3
            replace g4 := cell_regrown g4
            replace p0 := cell_regrown p0
            replace p1 := cell_regrown p1
            replace p2 := cell_regrown p2
            replace hcell := cell_regrown hcell
            refine wp_region_quiet_below (by kernel_rfl) (by kernel_rfl) ?_
            iterate 13 (go_big_quiet_step ((go_at_call 21; exact Calls.regrown_of (HGq.out _ (HV.out _ (KK.out.2.2.2.trans ((below_regrown _ _ _).mono KK.out.2.2.2.size)))))))
            refine wpQuiet_nil ?_
            rintro wz ⟨pz, hz⟩
            have hbz := below_regrown _ _ _ |> fun b => (hz ▸ b : Below _ _ wz)
            have KZ := hide (KK.out.below hbz)
            have HZ := hide (HY.out.below hbz)
            clear hz hbz
            go_wp2_with fail
            go_roundw
            case rel => exact ⟨q + 1, by omega, by go_num, KZ.out, HZ.out⟩
            case measure => simp [intOf]; omega
          · obtain rfl : q = C := by omega
            by_cases j1 : k < 0
            · go_wp2_with fail
              refine (HA.out _).mono ?_
              rintro e w9 ⟨rfl, hb⟩
              have K9 := hide (KK.out.below hb)
              clear hb
              go_wp2_with fail
              go_ret
              exact ⟨rfl, K9.out.2.2.2⟩
            · have j2 : ¬ k < (q : Int) := fun t => HKC.out ⟨by omega, t⟩
              go_wp2_with fail
              refine (HA.out _).mono ?_
              rintro e w9 ⟨rfl, hb⟩
              have K9 := hide (KK.out.below hb)
              clear hb
              go_wp2_with fail
              go_ret
              exact ⟨rfl, K9.out.2.2.2⟩
    · skip
      have HT := hide (fun w => BAt_no x y c A n cap mode k0 k1 k2 k3 px py k z w hz hz0)
      have HP := hide (fun w => BPixel_no x y c A n cap mode k0 k1 k2 k3 px py z w hz hz0)
      unfold bcheckZ at hz
      by_cases hc : checkZ x y c n = 0
      · rw [hc] at HR
        rw [if_neg (by simpa using hc)] at hz
        unfold bchkZ at hz
        have hm : ¬ (0 ≤ mode ∧ mode ≤ 3) := fun q => by rw [if_pos q] at hz; omega
        rw [if_neg hm] at hz
        subst hz
        clear hB hk hx hy hkk hn hc hz0
        by_cases m1 : mode < 0
        · clear hm
          obtain ⟨_, a0, a1, a2, a3, _, _, _, _⟩ := HK.out.1.four
          obtain ⟨_, g0, g1, g2, g3, g4⟩ := HK.out.2.1.five
          obtain ⟨_, p0, p1, p2⟩ := HK.out.2.2.1.three
          go_enter Try.func5, Try.ntmps5
          go_wp2_with fail
          refine (HF.out _).mono ?_
          rintro e w1 ⟨rfl, hb⟩
          have K1 := hide (HK.out.below hb)
          clear hb a0 a1 a2 a3 g0 g1 g2 g3 g4 p0 p1 p2
          obtain ⟨_, a0, a1, a2, a3, _, _, _, _⟩ := K1.out.1.four
          obtain ⟨_, g0, g1, g2, g3, g4⟩ := K1.out.2.1.five
          obtain ⟨_, p0, p1, p2⟩ := K1.out.2.2.1.three
          go_wp2_with fail
          refine (HT.out _).mono ?_
          rintro e w1 ⟨rfl, hb⟩
          have K2 := hide (K1.out.below hb)
          clear hb a0 a1 a2 a3 g0 g1 g2 g3 g4 p0 p1 p2
          obtain ⟨_, a0, a1, a2, a3, _, _, _, _⟩ := K2.out.1.four
          obtain ⟨_, g0, g1, g2, g3, g4⟩ := K2.out.2.1.five
          obtain ⟨_, p0, p1, p2⟩ := K2.out.2.2.1.three
          go_wp2_with fail
          refine (HP.out _).mono ?_
          rintro e w1 ⟨rfl, hb⟩
          have K3 := hide (K2.out.below hb)
          clear hb a0 a1 a2 a3 g0 g1 g2 g3 g4 p0 p1 p2
          obtain ⟨_, a0, a1, a2, a3, _, _, _, _⟩ := K3.out.1.four
          obtain ⟨_, g0, g1, g2, g3, g4⟩ := K3.out.2.1.five
          obtain ⟨_, p0, p1, p2⟩ := K3.out.2.2.1.three
          go_wp2_with fail
          refine (HR.out _).mono ?_
          rintro e w1 ⟨rfl, hb⟩
          have K4 := hide (K3.out.below hb)
          clear hb a0 a1 a2 a3 g0 g1 g2 g3 g4 p0 p1 p2
          obtain ⟨_, a0, a1, a2, a3, _, _, _, _⟩ := K4.out.1.four
          obtain ⟨_, g0, g1, g2, g3, g4⟩ := K4.out.2.1.five
          obtain ⟨_, p0, p1, p2⟩ := K4.out.2.2.1.three
          go_wp2_with fail
          refine (HA.out _).mono ?_
          rintro e w9 ⟨rfl, hb⟩
          have K9 := hide (K4.out.below hb)
          clear hb
          go_wp2_with fail
          go_ret
          exact ⟨rfl, K9.out.2.2.2⟩
        · have m2 : 3 < mode := by omega
          clear hm
          obtain ⟨_, a0, a1, a2, a3, _, _, _, _⟩ := HK.out.1.four
          obtain ⟨_, g0, g1, g2, g3, g4⟩ := HK.out.2.1.five
          obtain ⟨_, p0, p1, p2⟩ := HK.out.2.2.1.three
          go_enter Try.func5, Try.ntmps5
          go_wp2_with fail
          refine (HF.out _).mono ?_
          rintro e w1 ⟨rfl, hb⟩
          have K1 := hide (HK.out.below hb)
          clear hb a0 a1 a2 a3 g0 g1 g2 g3 g4 p0 p1 p2
          obtain ⟨_, a0, a1, a2, a3, _, _, _, _⟩ := K1.out.1.four
          obtain ⟨_, g0, g1, g2, g3, g4⟩ := K1.out.2.1.five
          obtain ⟨_, p0, p1, p2⟩ := K1.out.2.2.1.three
          go_wp2_with fail
          refine (HT.out _).mono ?_
          rintro e w1 ⟨rfl, hb⟩
          have K2 := hide (K1.out.below hb)
          clear hb a0 a1 a2 a3 g0 g1 g2 g3 g4 p0 p1 p2
          obtain ⟨_, a0, a1, a2, a3, _, _, _, _⟩ := K2.out.1.four
          obtain ⟨_, g0, g1, g2, g3, g4⟩ := K2.out.2.1.five
          obtain ⟨_, p0, p1, p2⟩ := K2.out.2.2.1.three
          go_wp2_with fail
          refine (HP.out _).mono ?_
          rintro e w1 ⟨rfl, hb⟩
          have K3 := hide (K2.out.below hb)
          clear hb a0 a1 a2 a3 g0 g1 g2 g3 g4 p0 p1 p2
          obtain ⟨_, a0, a1, a2, a3, _, _, _, _⟩ := K3.out.1.four
          obtain ⟨_, g0, g1, g2, g3, g4⟩ := K3.out.2.1.five
          obtain ⟨_, p0, p1, p2⟩ := K3.out.2.2.1.three
          go_wp2_with fail
          refine (HR.out _).mono ?_
          rintro e w1 ⟨rfl, hb⟩
          have K4 := hide (K3.out.below hb)
          clear hb a0 a1 a2 a3 g0 g1 g2 g3 g4 p0 p1 p2
          obtain ⟨_, a0, a1, a2, a3, _, _, _, _⟩ := K4.out.1.four
          obtain ⟨_, g0, g1, g2, g3, g4⟩ := K4.out.2.1.five
          obtain ⟨_, p0, p1, p2⟩ := K4.out.2.2.1.three
          go_wp2_with fail
          refine (HA.out _).mono ?_
          rintro e w9 ⟨rfl, hb⟩
          have K9 := hide (K4.out.below hb)
          clear hb
          go_wp2_with fail
          go_ret
          exact ⟨rfl, K9.out.2.2.2⟩
      · rw [if_pos hc] at hz
        rw [hz] at HR
        have z1 : (z == 0) = false := by simpa using hz0
        have z2 : (z != 0) = true := by simpa using hz0
        clear hB hk hx hy hkk hn hc hz hz0
        obtain ⟨_, a0, a1, a2, a3, _, _, _, _⟩ := HK.out.1.four
        obtain ⟨_, g0, g1, g2, g3, g4⟩ := HK.out.2.1.five
        obtain ⟨_, p0, p1, p2⟩ := HK.out.2.2.1.three
        go_enter Try.func5, Try.ntmps5
        go_wp2_with fail
        refine (HF.out _).mono ?_
        rintro e w1 ⟨rfl, hb⟩
        have K1 := hide (HK.out.below hb)
        clear hb a0 a1 a2 a3 g0 g1 g2 g3 g4 p0 p1 p2
        obtain ⟨_, a0, a1, a2, a3, _, _, _, _⟩ := K1.out.1.four
        obtain ⟨_, g0, g1, g2, g3, g4⟩ := K1.out.2.1.five
        obtain ⟨_, p0, p1, p2⟩ := K1.out.2.2.1.three
        go_wp2_with fail
        refine (HT.out _).mono ?_
        rintro e w1 ⟨rfl, hb⟩
        have K2 := hide (K1.out.below hb)
        clear hb a0 a1 a2 a3 g0 g1 g2 g3 g4 p0 p1 p2
        obtain ⟨_, a0, a1, a2, a3, _, _, _, _⟩ := K2.out.1.four
        obtain ⟨_, g0, g1, g2, g3, g4⟩ := K2.out.2.1.five
        obtain ⟨_, p0, p1, p2⟩ := K2.out.2.2.1.three
        go_wp2_with fail
        refine (HP.out _).mono ?_
        rintro e w1 ⟨rfl, hb⟩
        have K3 := hide (K2.out.below hb)
        clear hb a0 a1 a2 a3 g0 g1 g2 g3 g4 p0 p1 p2
        obtain ⟨_, a0, a1, a2, a3, _, _, _, _⟩ := K3.out.1.four
        obtain ⟨_, g0, g1, g2, g3, g4⟩ := K3.out.2.1.five
        obtain ⟨_, p0, p1, p2⟩ := K3.out.2.2.1.three
        go_wp2_with fail
        refine (HR.out _).mono ?_
        rintro e w1 ⟨rfl, hb⟩
        have K4 := hide (K3.out.below hb)
        clear hb a0 a1 a2 a3 g0 g1 g2 g3 g4 p0 p1 p2
        obtain ⟨_, a0, a1, a2, a3, _, _, _, _⟩ := K4.out.1.four
        obtain ⟨_, g0, g1, g2, g3, g4⟩ := K4.out.2.1.five
        obtain ⟨_, p0, p1, p2⟩ := K4.out.2.2.1.three
        go_wp2_with fail
        refine (HA.out _).mono ?_
        rintro e w9 ⟨rfl, hb⟩
        have K9 := hide (K4.out.below hb)
        clear hb
        go_wp2_with fail
        go_ret
        exact ⟨rfl, K9.out.2.2.2⟩
  · rw [decide_eq_false hn] at HF
    clear hB hk hx hy hkk hn
    obtain ⟨_, a0, a1, a2, a3, _, _, _, _⟩ := HK.out.1.four
    obtain ⟨_, g0, g1, g2, g3, g4⟩ := HK.out.2.1.five
    obtain ⟨_, p0, p1, p2⟩ := HK.out.2.2.1.three
    go_enter Try.func5, Try.ntmps5
    go_wp2_with fail
    refine (HF.out _).mono ?_
    rintro e w1 ⟨rfl, hb⟩
    have K1 := hide (HK.out.below hb)
    clear hb a0 a1 a2 a3 g0 g1 g2 g3 g4 p0 p1 p2
    go_wp2_with fail
    go_ret
    exact ⟨rfl, K1.out.2.2.2⟩
end Go.Proofs.Ytbogckpnajjlmaa
