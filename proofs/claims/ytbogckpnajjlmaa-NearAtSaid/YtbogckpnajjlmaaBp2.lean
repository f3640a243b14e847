/-
Contracts of border's Pixel. No statement is proved here.
-/
import Derived.Test.YtbogckpnajjlmaaBp1
import Derived.Test.YtbogckpnajjlmaaRow7
import Derived.Test.YtbogckpnajjlmaaApp1
namespace Go.Proofs.Ytbogckpnajjlmaa
open Go.RowKit

/-- bytes of one's own, and no code -/
def OwnE (w : World) (xs : List Int) (e : Ending) (w' : World) : Prop := ∃ v, e = .returned (.tuple #[v, .int .i64 0]) ∧ w'.ownsRow w.heap.size 5 1 v xs.length (bytesV xs) ∧ Below w.heap.size w w'
/-- the bytes of a border's colour -/
theorem BY.col {w : World} {g : Nat} {m : Value} {k0 k1 k2 k3 : Int} (h : Bx w g [m, .int .u8 k0, .int .u8 k1, .int .u8 k2, .int .u8 k3]) (hk : ∀ z ∈ [k0, k1, k2, k3], 0 ≤ z ∧ z ≤ 255) (L : Nat) (hL : L ≤ 4) : BY w (some ⟨g, 1, none⟩) L 4 ([k0, k1, k2, k3].take L) := by
  obtain ⟨h0, _, c1, c2, c3, c4⟩ := h.five
  refine ⟨by simp; omega, hL, by decide, fun x hx => hk x (List.mem_of_mem_take hx), fun hp => ⟨g, 1, rfl, h0, fun i hi => ?_⟩⟩
  rw [List.getD_eq_getElem?_getD, List.getElem?_take, if_pos hi]
  rcases (show i = 0 ∨ i = 1 ∨ i = 2 ∨ i = 3 by omega) with rfl | rfl | rfl | rfl
  · exact c1
  · exact c2
  · exact c3
  · exact c4

set_option maxHeartbeats 1000000 in
theorem BPixel_no (x y c : Int) (A : Option Addr) (n cap : Nat) (mode k0 k1 k2 k3 px py z : Int) (w : World) (h : bcheckZ x y c n mode = z) (hz : z ≠ 0) :
    Calls Try.prog 18 #[.agg #[.int .i64 x, .int .i64 y, .int .i64 c, .slice A n cap], .agg #[.int .i64 mode, .int .u8 k0, .int .u8 k1, .int .u8 k2, .int .u8 k3], .int .i64 px, .int .i64 py] w (Says w (.tuple #[.slice none 0 0, .int .i64 z])) := by
  have H0 := below_alloc2 w (.cells #[.int .i64 x, .int .i64 y, .int .i64 c, .slice A n cap] 24) (.cells #[.int .i64 mode, .int .u8 k0, .int .u8 k1, .int .u8 k2, .int .u8 k3] 41)
  have B0 := (Bx.at (w := w) (g := w.heap.size) [.int .i64 x, .int .i64 y, .int .i64 c, .slice A n cap] 24 rfl).alloc (.cells #[.int .i64 mode, .int .u8 k0, .int .u8 k1, .int .u8 k2, .int .u8 k3] 41)
  have B1 := Bx.at (w := w.alloc (.cells #[.int .i64 x, .int .i64 y, .int .i64 c, .slice A n cap] 24)) (g := w.heap.size + 1) [.int .i64 mode, .int .u8 k0, .int .u8 k1, .int .u8 k2, .int .u8 k3] 41 (by simp)
  have e0 : [Value.int .i64 mode, .int .u8 k0, .int .u8 k1, .int .u8 k2, .int .u8 k3].toArray = #[Value.int .i64 mode, .int .u8 k0, .int .u8 k1, .int .u8 k2, .int .u8 k3] := rfl
  have e1 : [Value.int .i64 x, .int .i64 y, .int .i64 c, .slice A n cap].toArray = #[Value.int .i64 x, .int .i64 y, .int .i64 c, .slice A n cap] := rfl
  rw [e1] at B0 B1
  rw [e0] at B1
  have HL := hide H0
  have HC := hide (fun w => Bcheck_any x y c A n cap mode k0 k1 k2 k3 w)
  rw [h] at HC
  obtain ⟨_, a0, a1, a2, a3, _, _, _, _⟩ := B0.four
  obtain ⟨_, g0, g1, g2, g3, g4⟩ := B1.five
  have k1 : (z != 0) = true := by simpa using hz
  clear H0 B1 B0 e0 e1 h hz
  go_enter Try.func18, Try.ntmps18
  go_wp2_with fail
  refine (HC.out _).mono ?_
  rintro e w1 ⟨rfl, hb⟩
  have L1 := hide (HL.out.trans (hb.mono HL.out.size))
  clear hb a0 a1 a2 a3 g0 g1 g2 g3 g4
  go_wp2_with fail
  refine bodyPost_ret (v := .tuple #[.slice none 0 0, .int .i64 z]) (by simp [results, Try.results18, go_sem]) rfl ⟨rfl, L1.out⟩

set_option maxHeartbeats 2000000 in
theorem BPixel_yes (x y c : Int) (A : Option Addr) (n cap : Nat) (xs : List Int) (mode k0 k1 k2 k3 px py : Int) (w : World) (h : bcheckZ x y c n mode = 0) (hx : isI64 px) (hy : isI64 py) (hB : BY w A n cap xs) (hk : ∀ z ∈ [k0, k1, k2, k3], 0 ≤ z ∧ z ≤ 255) :
    Calls Try.prog 18 #[.agg #[.int .i64 x, .int .i64 y, .int .i64 c, .slice A n cap], .agg #[.int .i64 mode, .int .u8 k0, .int .u8 k1, .int .u8 k2, .int .u8 k3], .int .i64 px, .int .i64 py] w (OwnE w (pixL x y c xs mode [k0, k1, k2, k3] px py)) := by
  have H0 := below_alloc2 w (.cells #[.int .i64 x, .int .i64 y, .int .i64 c, .slice A n cap] 24) (.cells #[.int .i64 mode, .int .u8 k0, .int .u8 k1, .int .u8 k2, .int .u8 k3] 41)
  have B0 := (Bx.at (w := w) (g := w.heap.size) [.int .i64 x, .int .i64 y, .int .i64 c, .slice A n cap] 24 rfl).alloc (.cells #[.int .i64 mode, .int .u8 k0, .int .u8 k1, .int .u8 k2, .int .u8 k3] 41)
  have B1 := Bx.at (w := w.alloc (.cells #[.int .i64 x, .int .i64 y, .int .i64 c, .slice A n cap] 24)) (g := w.heap.size + 1) [.int .i64 mode, .int .u8 k0, .int .u8 k1, .int .u8 k2, .int .u8 k3] 41 (by simp)
  have e0 : [Value.int .i64 mode, .int .u8 k0, .int .u8 k1, .int .u8 k2, .int .u8 k3].toArray = #[Value.int .i64 mode, .int .u8 k0, .int .u8 k1, .int .u8 k2, .int .u8 k3] := rfl
  have e1 : [Value.int .i64 x, .int .i64 y, .int .i64 c, .slice A n cap].toArray = #[Value.int .i64 x, .int .i64 y, .int .i64 c, .slice A n cap] := rfl
  rw [e1] at B0 B1
  rw [e0] at B1
  have HL := hide H0
  have HC := hide (fun w => Bcheck_any x y c A n cap mode k0 k1 k2 k3 w)
  rw [h] at HC
  have HP := hide (fun w => Bplace_any x y c A n cap mode k0 k1 k2 k3 px py w h hx hy)
  have HB1 := hide B1
  have HB0 := hide B0
  clear H0 B1 B0 e0 e1
  obtain ⟨hc, hm⟩ := bcheck_zero h
  obtain ⟨_, _, _, _, c1⟩ := size_ok hc
  obtain ⟨_, _, ⟨r1, r2⟩, n1⟩ := has_in (bat_has h px py 0 (by omega))
  have r1' : 0 ≤ bat x y c mode px py := r1
  have r2' : bat x y c mode px py + c ≤ n := r2
  unfold pixL
  obtain ⟨F, hF⟩ : ∃ F : Nat, bat x y c mode px py = F := ⟨(bat x y c mode px py).toNat, by omega⟩
  obtain ⟨L, hL⟩ : ∃ L : Nat, c = L := ⟨c.toNat, by omega⟩
  rw [hF] at HP r1' r2' ⊢
  have q1 : F + L ≤ n := by omega
  have q2 : n ≤ cap := hB.2.1
  have q3 : 1 ≤ L := by omega
  have q4 : L ≤ 4 := by omega
  obtain ⟨_, a0, a1, a2, a3, _, _, _, _⟩ := HB0.out.four
  obtain ⟨_, g0, g1, g2, g3, g4⟩ := HB1.out.five
  subst hL
  have w2 : IntKind.i64.wrap ((F : Int) + L) = (F : Int) + L := IntWalk.i64_in _ (by omega)
  have i1 : (0 : Int) ≤ (F : Int) + L := by omega
  have i2 : ((F : Int) + L).toNat = F + L := by omega
  have i3 : (F : Int) ≤ (F : Int) + L := by omega
  have i4 : (F : Int) + L ≤ (cap : Int) := by omega
  have i5 : F + L - F = L := by omega
  have i6 : ¬ cap = F := by omega
  have i7 : (L : Int) ≤ 4 := by omega
  have i8 : (0 : Int) ≤ (L : Int) := by omega
  obtain ⟨bb, o, rfl, _, _⟩ := hB.2.2.2.2 (by omega)
  cases hb : bthere x y mode px py
  · rw [hb] at HP
    rw [if_neg (by decide)]
    have K1 := hide (fun w' (h : Bx w' (w.heap.size + 1) [.int .i64 mode, .int .u8 k0, .int .u8 k1, .int .u8 k2, .int .u8 k3]) => Clone_any (w.heap.size + 1) 1 L 4 _ w' (BY.col h hk L q4) (by omega))
    have e3 : ((L : Int)).toNat = L := by omega
    rw [e3]
    clear hb h hc hm c1 r1 r2 n1 r1' r2' hF q1 q2 q3 hB hk hx hy
    go_enter Try.func18, Try.ntmps18
    go_wp2_with fail
    refine (HC.out _).mono ?_
    rintro e w1 ⟨rfl, hb⟩
    have L1 := hide (HL.out.trans (hb.mono HL.out.size))
    have C0 := hide (HB0.out.below hb)
    have C1 := hide (HB1.out.below hb)
    clear hb a0 a1 a2 a3 g0 g1 g2 g3 g4
    obtain ⟨_, a0, a1, a2, a3, _, _, _, _⟩ := C0.out.four
    obtain ⟨_, g0, g1, g2, g3, g4⟩ := C1.out.five
    go_wp2_with fail
    refine (HP.out _).mono ?_
    rintro e w2 ⟨rfl, hb⟩
    have L2 := hide (L1.out.trans (hb.mono L1.out.size))
    have D0 := hide (C0.out.below hb)
    have D1 := hide (C1.out.below hb)
    clear hb a0 a1 a2 a3 g0 g1 g2 g3 g4
    obtain ⟨_, a0, a1, a2, a3, _, _, _, _⟩ := D0.out.four
    obtain ⟨_, g0, g1, g2, g3, g4⟩ := D1.out.five
    go_wp2_with fail
    refine Calls.mono (K1.out _ D1.out) ?_
    rintro e w3 ⟨v, rfl, ho, hb⟩
    have HO := hide (own_less ho L2.out.size)
    have L3 := hide (L2.out.trans (hb.mono L2.out.size))
    clear ho hb a0 a1 a2 a3 g0 g1 g2 g3 g4
    go_wp2_with fail
    refine bodyPost_ret (v := .tuple #[v, .int .i64 0]) (by simp [results, Try.results18, go_sem]) rfl ?_
    exact ⟨v, rfl, HO.out, L3.out⟩
  · rw [hb] at HP
    rw [if_pos rfl]
    have K1 := hide (fun w' (hb : Below w.heap.size w w') => Clone_any bb (o + F) L (cap - F) _ w' ((hB.below hb).part (F := F) (L := L) q1) (by omega))
    have e3 : ((L : Int)).toNat = L := by omega
    have e4 : ((F : Int)).toNat = F := by omega
    rw [e3, e4]
    clear hb h hc hm c1 r1 r2 n1 r1' r2' hF q1 q2 q3 q4 hB hk hx hy i7
    go_enter Try.func18, Try.ntmps18
    go_wp2_with fail
    refine (HC.out _).mono ?_
    rintro e w1 ⟨rfl, hb⟩
    have L1 := hide (HL.out.trans (hb.mono HL.out.size))
    have C0 := hide (HB0.out.below hb)
    have C1 := hide (HB1.out.below hb)
    clear hb a0 a1 a2 a3 g0 g1 g2 g3 g4
    obtain ⟨_, a0, a1, a2, a3, _, _, _, _⟩ := C0.out.four
    obtain ⟨_, g0, g1, g2, g3, g4⟩ := C1.out.five
    go_wp2_with fail
    refine (HP.out _).mono ?_
    rintro e w2 ⟨rfl, hb⟩
    have L2 := hide (L1.out.trans (hb.mono L1.out.size))
    have D0 := hide (C0.out.below hb)
    clear hb a0 a1 a2 a3 g0 g1 g2 g3 g4
    obtain ⟨_, a0, a1, a2, a3, _, _, _, _⟩ := D0.out.four
    go_wp2_with fail
    refine (K1.out _ L2.out).mono ?_
    rintro e w3 ⟨v, rfl, ho, hb⟩
    have HO := hide (own_less ho L2.out.size)
    have L3 := hide (L2.out.trans (hb.mono L2.out.size))
    clear ho hb a0 a1 a2 a3
    go_wp2_with fail
    refine bodyPost_ret (v := .tuple #[v, .int .i64 0]) (by simp [results, Try.results18, go_sem]) rfl ?_
    exact ⟨v, rfl, HO.out, L3.out⟩
end Go.Proofs.Ytbogckpnajjlmaa
