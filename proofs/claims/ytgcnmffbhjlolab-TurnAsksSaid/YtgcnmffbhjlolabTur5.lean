/-
The law TurnAsks: its walk. No statement is proved here.
-/
import Derived.Test.YtgcnmffbhjlolabTur4
import Derived.Test.YtgcnmffbhjlolabPlaces
namespace Go.Proofs.Ytgcnmffbhjlolab
open Go.RowKit

theorem Bx.three {w : World} {g : Nat} {x0 x1 x2 : Value} (h : Bx w g [x0, x1, x2]) : w.cell? ⟨g, 0, none⟩ = some x0 ∧ w.cell? ⟨g, 1, none⟩ = some x1 ∧ w.cell? ⟨g, 2, none⟩ = some x2 :=
  ⟨(h.2 0 _ rfl).1, (h.2 1 _ rfl).1, (h.2 2 _ rfl).1⟩
/-- the law's world: the numbers, the places -/
def TAskW (w : World) (A : Option Addr) (n c : Nat) (xs : List Int) (B : Option Addr) (m : Nat) (f : Nat → Pl3) (wx : World) : Prop := IY wx A n c xs ∧ PY wx B m f ∧ Below w.heap.size w wx
theorem TAskW.below {w : World} {A : Option Addr} {n c : Nat} {xs : List Int} {B : Option Addr} {m : Nat} {f : Nat → Pl3} {wx wy : World} (h : TAskW w A n c xs B m f wx) (hb : Below wx.heap.size wx wy) : TAskW w A n c xs B m f wy :=
  ⟨h.1.below hb, h.2.1.below hb, h.2.2.trans (hb.mono h.2.2.size)⟩
theorem TAskW.start {w : World} {A : Option Addr} {n c : Nat} {xs : List Int} {B : Option Addr} {m : Nat} {f : Nat → Pl3} (h : IY w A n c xs) (k : PY w B m f) : TAskW w A n c xs B m f w := ⟨h, k, Below.refl _ _⟩

set_option maxRecDepth 100000 in
set_option maxHeartbeats 4000000 in
theorem TurnAsks_bad (A : Option Addr) (n c : Nat) (xs : List Int) (B : Option Addr) (m cap : Nat) (f : Nat → Pl3) (w : World) (h : IY w A n c xs) (hp : PY w B m f) (hn : n ≤ 60) (hm : m ≤ 60) (hE : turnC xs ≠ 0) :
    Calls Try.prog 7 #[.slice A n c, .slice B m cap] w (Says w (.bool true)) := by
  have HN := hide (fun (w : World) (h : IY w A n c xs) => TNew_any A n c xs w h)
  have HC := hide (fun (w : World) (h : IY w A n c xs) => TCheck_any A n c xs w h)
  have HD := hide (fun (w : World) (h : IY w A n c xs) => RTCheck_any A n c xs w h)
  have HA := hide (fun w => alive23_any w)
  have HW := hide (TAskW.start h hp)
  have hz : (n : Int) ≤ 60 := by omega
  have hz2 : (m : Int) ≤ 60 := by omega
  have HT := hide (fun (p : Pl3) w => TAt_nil p.x p.y p.d w)
  have HBN := hide (fun w => Size_nil w)
  have HE0 := hide (show ∀ w e w', TNewQ xs w e w' → Below w.heap.size w w' ∧ e = .returned (.tuple #[.pointer none, .int .i64 (turnC xs)]) from fun w e w' ⟨q1, q2⟩ => ⟨q1, by
    rcases q2 with ⟨q3, _⟩ | ⟨_, q4⟩
    · exact absurd q3 hE
    · exact q4⟩)
  obtain ⟨v, hv⟩ : ∃ v, turnC xs = v := ⟨_, rfl⟩
  rw [hv] at HE0 hE
  have HN' := hide (fun (w : World) (h : IY w A n c xs) => (HN.out w h).mono (fun e w' q => HE0.out w e w' q))
  rw [hv] at HC HD
  have hE' : (v != 0) = true := by simpa using hE
  have hE2 : (v == 0) = false := by simpa using hE
  clear hv HN HE0 h hp hn hm
  go_enter Try.func7, Try.ntmps7
  go_wp2_with fail
  refine (HN'.out _ HW.out.1).mono ?_
  rintro e w1 ⟨hb, rfl⟩
  have HW1 := hide (HW.out.below hb)
  clear HW hb
  go_wp2_with fail
  refine (HD.out _ HW1.out.1).mono ?_
  rintro e w2 ⟨rfl, rfl⟩
  go_wp2_with fail
  refine (HC.out _ HW1.out.1).mono ?_
  rintro e w3 ⟨rfl, rfl⟩
  go_wp2_with fail
  refine (HBN.out _).mono ?_
  rintro e w4 ⟨rfl, hb⟩
  have HW3 := hide (HW1.out.below hb)
  clear hb HW1
  go_wp2_with fail
  go_loopw [79] (fun i wr => ∃ k : Nat, k ≤ m ∧ i = .int .i64 k ∧ TAskW w A n c xs B m f wr) (fun i _ => m - (intOf i).toNat)
  case atStart => exact ⟨0, Nat.zero_le _, rfl, HW3.out⟩
  case round =>
    clear HW3
    obtain ⟨k, hk, rfl, hK⟩ := hrel
    have HK := hide hK
    clear hK
    by_cases hlt : k < m
    · obtain ⟨b, o, rfl, _, hcell⟩ := HK.out.2.1 (by omega)
      obtain ⟨c0, c1, c2, x1, x2, x3⟩ := hcell k hlt
      obtain ⟨p, hp⟩ : ∃ p, f k = p := ⟨_, rfl⟩
      rw [hp] at c0 c1 c2 x1 x2 x3
      clear hp hcell
      have i0 : (0 : Int) ≤ (k : Int) := by omega
      have i1 : (k : Int) < (m : Int) := by omega
      have HK2 := hide (HK.out.below (below_alloc wr (.cells #[.int .i64 p.x, .int .i64 p.y, .int .i64 p.d] 31)))
      obtain ⟨d0, d1, d2⟩ := (Bx.new wr [.int .i64 p.x, .int .i64 p.y, .int .i64 p.d] 31).three
      go_wp2_with fail
      refine (HT.out p _).mono ?_
      rintro e w5 ⟨rfl, hb⟩
      have HK3 := hide (HK2.out.below hb)
      clear hb HK2 HK c0 c1 c2 d0 d1 d2 x1 x2 x3
      go_wp2_with fail
      go_roundw
      case rel => exact ⟨k + 1, by omega, by go_num, HK3.out⟩
      case measure => simp [intOf]; omega
    · obtain rfl : k = m := by omega
      go_wp2_with fail
      refine (HA.out _).mono ?_
      rintro e w9 ⟨rfl, hb⟩
      have HB9 := hide (HK.out.below hb).2.2
      clear hb
      go_wp2_with fail
      go_ret
      exact ⟨rfl, HB9.out⟩

set_option maxRecDepth 100000 in
set_option maxHeartbeats 8000000 in
theorem TurnAsks_ok (b o c : Nat) (l : Tn) (B : Option Addr) (m cap : Nat) (f : Nat → Pl3) (w : World) (h : IY w (some ⟨b, o, none⟩) 3 c l.list) (hp : PY w B m f) (hm : m ≤ 60) (hE : turnC l.list = 0) (hlo : l.ok) :
    Calls Try.prog 7 #[.slice (some ⟨b, o, none⟩) 3 c, .slice B m cap] w (Says w (.bool true)) := by
  have HN := hide (fun (w : World) (h : IY w (some ⟨b, o, none⟩) 3 c l.list) => TNew_any (some ⟨b, o, none⟩) 3 c l.list w h)
  have HC := hide (fun (w : World) (h : IY w (some ⟨b, o, none⟩) 3 c l.list) => TCheck_any (some ⟨b, o, none⟩) 3 c l.list w h)
  have HD := hide (fun (w : World) (h : IY w (some ⟨b, o, none⟩) 3 c l.list) => RTCheck_any (some ⟨b, o, none⟩) 3 c l.list w h)
  have HA := hide (fun w => alive23_any w)
  have HW := hide (TAskW.start h hp)
  have hz2 : (m : Int) ≤ 60 := by omega
  have HT := hide (fun (g : Nat) (p : Pl3) (w : World) (h : Bx w g l.cells) => TAt_any g l p.x p.y p.d w h hlo)
  have HRT := hide (fun (p : Pl3) (w : World) (h : IY w (some ⟨b, o, none⟩) 3 c l.list) (hr : RightZ p.x p.y p.d) => RTAt_any l b o c p.x p.y p.d w h hlo hr)
  have HR := hide (fun (p : Pl3) w => RRight_any p.x p.y p.d w)
  have HBN := hide (fun (g : Nat) (w : World) (h : Bx w g l.cells) => Size_any g l w h hlo)
  have HRB := hide (fun (w : World) (h : IY w (some ⟨b, o, none⟩) 3 c l.list) => RSize_any l b o c w h hlo)
  obtain ⟨sa, hsa⟩ : ∃ s, sizeA l.q l.w l.h = s := ⟨_, rfl⟩
  obtain ⟨sb, hsb⟩ : ∃ s, sizeB l.q l.w l.h = s := ⟨_, rfl⟩
  rw [hsa, hsb] at HBN HRB
  have HE0 := hide (show ∀ w e w', TNewQ l.list w e w' → Below w.heap.size w w' ∧ ∃ g, e = .returned (.tuple #[.pointer (some ⟨g, 0, none⟩), .int .i64 0]) ∧ Bx w' g l.cells from fun w e w' ⟨q1, q2⟩ => ⟨q1, by
    rcases q2 with ⟨_, l', g, q4, _, q5, q6⟩ | ⟨q3, _⟩
    · obtain rfl : l = l' := by
        obtain ⟨a1, a2, a3⟩ := l
        obtain ⟨b1, b2, b3⟩ := l'
        simp [Tn.list] at q4
        obtain ⟨rfl, rfl, rfl⟩ := q4
        rfl
      exact ⟨g, q5, q6⟩
    · exact absurd hE q3⟩)
  have HN' := hide (fun (w : World) (h : IY w (some ⟨b, o, none⟩) 3 c l.list) => (HN.out w h).mono (fun e w' q => HE0.out w e w' q))
  rw [hE] at HC HD
  clear HN HE0 h hp hm hE hlo hsa hsb
  go_enter Try.func7, Try.ntmps7
  go_wp2_with fail
  refine (HN'.out _ HW.out.1).mono ?_
  rintro e w1 ⟨hb, g, rfl, hx⟩
  have HW1 := hide (HW.out.below hb)
  have HX1 := hide hx
  clear HW hb hx
  go_wp2_with fail
  refine (HD.out _ HW1.out.1).mono ?_
  rintro e w2 ⟨rfl, rfl⟩
  go_wp2_with fail
  refine (HC.out _ HW1.out.1).mono ?_
  rintro e w3 ⟨rfl, rfl⟩
  go_wp2_with fail
  refine (HBN.out _ _ HX1.out).mono ?_
  rintro e w4 ⟨rfl, hb⟩
  have HW2 := hide (HW1.out.below hb)
  have HX2 := hide (HX1.out.below hb)
  clear hb HW1 HX1
  go_wp2_with fail
  refine (HRB.out _ HW2.out.1).mono ?_
  rintro e w5 ⟨rfl, hb⟩
  have HW3 := hide (HW2.out.below hb)
  have HX3 := hide (HX2.out.below hb)
  clear hb HW2 HX2
  go_wp2_with fail
  go_loopw [79] (fun i wr => ∃ k : Nat, k ≤ m ∧ i = .int .i64 k ∧ TAskW w (some ⟨b, o, none⟩) 3 c l.list B m f wr ∧ Bx wr g l.cells) (fun i _ => m - (intOf i).toNat)
  case atStart => exact ⟨0, Nat.zero_le _, rfl, HW3.out, HX3.out⟩
  case round =>
    clear HW3 HX3
    obtain ⟨k, hk, rfl, hK, hX⟩ := hrel
    have HK := hide hK
    have HX := hide hX
    clear hK hX
    by_cases hlt : k < m
    · obtain ⟨bb, oo, rfl, _, hcell⟩ := HK.out.2.1 (by omega)
      obtain ⟨c0, c1, c2, x1, x2, x3⟩ := hcell k hlt
      obtain ⟨p, hp⟩ : ∃ p, f k = p := ⟨_, rfl⟩
      rw [hp] at c0 c1 c2 x1 x2 x3
      clear hp hcell x1 x2 x3
      have i0 : (0 : Int) ≤ (k : Int) := by omega
      have i1 : (k : Int) < (m : Int) := by omega
      have HK2 := hide (HK.out.below (below_alloc wr (.cells #[.int .i64 p.x, .int .i64 p.y, .int .i64 p.d] 31)))
      have HX2 := hide (HX.out.alloc (.cells #[.int .i64 p.x, .int .i64 p.y, .int .i64 p.d] 31))
      have HPB := hide (Bx.new wr [.int .i64 p.x, .int .i64 p.y, .int .i64 p.d] 31)
      obtain ⟨d0, d1, d2⟩ := HPB.out.three
      have HTT := hide (fun w h => HT.out g p w h)
      have HRR := hide (HR.out p)
      by_cases kr : RightZ p.x p.y p.d
      · rw [decide_eq_true kr] at HRR
        have HRA := hide (fun w h => HRT.out p w h kr)
        rw [if_pos kr] at HTT
        clear kr
        go_wp2_with fail
        refine (HTT.out _ HX2.out).mono ?_
        rintro e w5 ⟨rfl, hb⟩
        have HK3 := hide (HK2.out.below hb)
        have HX3 := hide (HX2.out.below hb)
        have HP3 := hide (HPB.out.below hb)
        clear hb HK2 HX2 HPB HK HX c0 c1 c2 d0 d1 d2
        obtain ⟨d0, d1, d2⟩ := HP3.out.three
        go_wp2_with fail
        refine (HRR.out _).mono ?_
        rintro e w6 ⟨rfl, rfl⟩
        go_wp2_with fail
        refine (HRA.out _ HK3.out.1).mono ?_
        rintro e w7 ⟨rfl, hb⟩
        have HK4 := hide (HK3.out.below hb)
        have HX4 := hide (HX3.out.below hb)
        clear hb HK3 HX3 d0 d1 d2 HP3
        go_wp2_with fail
        go_roundw
        case rel => exact ⟨k + 1, by omega, by go_num, HK4.out, HX4.out⟩
        case measure => simp [intOf]; omega
      · rw [decide_eq_false kr] at HRR
        rw [if_neg kr] at HTT
        clear kr
        go_wp2_with fail
        refine (HTT.out _ HX2.out).mono ?_
        rintro e w5 ⟨rfl, hb⟩
        have HK3 := hide (HK2.out.below hb)
        have HX3 := hide (HX2.out.below hb)
        have HP3 := hide (HPB.out.below hb)
        clear hb HK2 HX2 HPB HK HX c0 c1 c2 d0 d1 d2
        obtain ⟨d0, d1, d2⟩ := HP3.out.three
        go_wp2_with fail
        refine (HRR.out _).mono ?_
        rintro e w6 ⟨rfl, rfl⟩
        go_wp2_with fail
        go_roundw
        case rel => exact ⟨k + 1, by omega, by go_num, HK3.out, HX3.out⟩
        case measure => simp [intOf]; omega
    · obtain rfl : k = m := by omega
      go_wp2_with fail
      refine (HA.out _).mono ?_
      rintro e w9 ⟨rfl, hb⟩
      have HB9 := hide (HK.out.below hb).2.2
      clear hb
      go_wp2_with fail
      go_ret
      exact ⟨rfl, HB9.out⟩

theorem TurnAsks_walk (A : Option Addr) (n c : Nat) (xs : List Int) (B : Option Addr) (m cap : Nat) (f : Nat → Pl3) (w : World) (h : IY w A n c xs) (hp : PY w B m f) :
    Calls Try.prog 7 #[.slice A n c, .slice B m cap] w (Says w (.bool true)) := by
  by_cases h1 : 60 < n
  · have i1 : (60 : Int) < (n : Int) := by omega
    have HB := hide (Below.refl w.heap.size w)
    clear h hp
    go_enter Try.func7, Try.ntmps7
    go_wp2_with fail
    go_ret
    exact ⟨rfl, HB.out⟩
  · by_cases h2 : 60 < m
    · have i1 : ¬ (60 : Int) < (n : Int) := by omega
      have i2 : (60 : Int) < (m : Int) := by omega
      have HB := hide (Below.refl w.heap.size w)
      clear h hp
      go_enter Try.func7, Try.ntmps7
      go_wp2_with fail
      go_ret
      exact ⟨rfl, HB.out⟩
    · by_cases hE : turnC xs = 0
      · obtain ⟨l, rfl, hl⟩ := turnC_zero hE
        obtain rfl : 3 = n := h.1
        obtain ⟨b, o, rfl⟩ := h.somewhere (by omega)
        exact TurnAsks_ok b o c l B m cap f w h hp (by omega) hE hl
      · exact TurnAsks_bad A n c xs B m cap f w h hp (by omega) (by omega) hE
end Go.Proofs.Ytgcnmffbhjlolab
