/-
The law ShearAsks: its walk. No statement is proved here.
-/
import Derived.Test.YtgcnmffbhjlolabDoorShr8
import Derived.Test.YtgcnmffbhjlolabDoorPlaces
import Derived.Lib.QuietBelow
namespace Go.Proofs.YtgcnmffbhjlolabDoor
open Go.RowKit

theorem Bx.three {w : World} {g : Nat} {x0 x1 x2 : Value} (h : Bx w g [x0, x1, x2]) : w.cell? ⟨g, 0, none⟩ = some x0 ∧ w.cell? ⟨g, 1, none⟩ = some x1 ∧ w.cell? ⟨g, 2, none⟩ = some x2 :=
  ⟨(h.2 0 _ rfl).1, (h.2 1 _ rfl).1, (h.2 2 _ rfl).1⟩
/-- the law's world: the numbers, the places -/
def SAskW (w : World) (A : Option Addr) (n c : Nat) (xs : List Int) (B : Option Addr) (m : Nat) (f : Nat → Pl3) (wx : World) : Prop := IY wx A n c xs ∧ PY wx B m f ∧ Below w.heap.size w wx ∧ Tab wx
theorem whole_near {l : Sl} {x y : Int} (hl : l.ok) (hx : -2097168 ≤ x ∧ x ≤ 2097168) (hy : -2097168 ≤ y ∧ y ≤ 2097168) : (-536870912 ≤ wholeX l x y ∧ wholeX l x y ≤ 536870912) ∧ -536870912 ≤ wholeY l x y ∧ wholeY l x y ≤ 536870912 := by
  have z1 := hl.2.2.1
  have z2 := hl.2.2.2
  unfold InZ at *
  have hb := on_bound hl.1 hl.2.1 (x := x - l.cx) (y := y - l.cy) (by omega) (by omega)
  unfold wholeX wholeY
  omega
theorem SAskW.below {w : World} {A : Option Addr} {n c : Nat} {xs : List Int} {B : Option Addr} {m : Nat} {f : Nat → Pl3} {wx wy : World} (h : SAskW w A n c xs B m f wx) (hb : Below wx.heap.size wx wy) : SAskW w A n c xs B m f wy :=
  ⟨h.1.below hb, h.2.1.below hb, h.2.2.1.trans (hb.mono h.2.2.1.size), h.2.2.2.below hb⟩
theorem SAskW.start {w : World} {A : Option Addr} {n c : Nat} {xs : List Int} {B : Option Addr} {m : Nat} {f : Nat → Pl3} (h : IY w A n c xs) (k : PY w B m f) (t : Tab w) : SAskW w A n c xs B m f w := ⟨h, k, Below.refl _ _, t⟩

set_option maxRecDepth 100000 in
set_option maxHeartbeats 4000000 in
theorem ShearAsks_bad (A : Option Addr) (n c : Nat) (xs : List Int) (B : Option Addr) (m cap : Nat) (f : Nat → Pl3) (w : World) (h : IY w A n c xs) (hp : PY w B m f) (ht : Tab w) (hn : n ≤ 60) (hm : m ≤ 60) (hE : slC xs ≠ 0) :
    Calls Tryd.prog 3 #[.slice A n c, .slice B m cap] w (Says w (.bool true)) := by
  have HN := hide (fun (w : World) (h : IY w A n c xs) (t : Tab w) => SNew_any A n c xs w h t)
  have HC := hide (fun (w : World) (h : IY w A n c xs) (t : Tab w) => SCheck_any A n c xs w h t)
  have HD := hide (fun (w : World) (h : IY w A n c xs) => RSCheck_any A n c xs w h)
  have HA := hide (fun w h => alive22_any w h)
  have HW := hide (SAskW.start h hp ht)
  have hz : (n : Int) ≤ 60 := by omega
  have hz2 : (m : Int) ≤ 60 := by omega
  have HT := hide (fun (p : Pl3) w => SAt_nil p.x p.y p.d w)
  have HBN := hide (fun w => Bounds_nil w)
  have HE0 := hide (show ∀ w e w', SNewQ xs w e w' → Below w.heap.size w w' ∧ e = .returned (.tuple #[.pointer none, .int .i64 (slC xs)]) from fun w e w' ⟨q1, q2⟩ => ⟨q1, by
    rcases q2 with ⟨q3, _⟩ | ⟨_, q4⟩
    · exact absurd q3 hE
    · exact q4⟩)
  obtain ⟨v, hv⟩ : ∃ v, slC xs = v := ⟨_, rfl⟩
  rw [hv] at HE0 hE
  have HN' := hide (fun (w : World) (h : IY w A n c xs) (t : Tab w) => (HN.out w h t).mono (fun e w' q => HE0.out w e w' q))
  rw [hv] at HC HD
  have hE' : (v != 0) = true := by simpa using hE
  have hE2 : (v == 0) = false := by simpa using hE
  clear hv HN HE0 h hp hn hm ht
  go_enter Tryd.func3, Tryd.ntmps3
  go_wp2_with fail
  refine (HN'.out _ HW.out.1 HW.out.2.2.2).mono ?_
  rintro e w1 ⟨hb, rfl⟩
  have HW1 := hide (HW.out.below hb)
  clear HW hb
  go_wp2_with fail
  refine (HD.out _ HW1.out.1).mono ?_
  rintro e w2 ⟨rfl, rfl⟩
  go_wp2_with fail
  refine (HC.out _ HW1.out.1 HW1.out.2.2.2).mono ?_
  rintro e w3 ⟨rfl, rfl⟩
  go_wp2_with fail
  refine (HBN.out _).mono ?_
  rintro e w4 ⟨rfl, hb⟩
  have HW3 := hide (HW1.out.below hb)
  clear hb HW1
  go_wp2_with fail
  go_loopw [79] (fun i wr => ∃ k : Nat, k ≤ m ∧ i = .int .i64 k ∧ SAskW w A n c xs B m f wr) (fun i _ => m - (intOf i).toNat)
  case atStart => exact ⟨0, Nat.zero_le _, rfl, HW3.out⟩
  case round =>
    clear HW3
    obtain ⟨k, hk, rfl, hK⟩ := hrel
    have HK := hide hK
    clear hK
    by_cases hlt : k < m
    · obtain ⟨b, o, rfl, _, hcell⟩ := HK.out.2.1 (by omega)
      obtain ⟨c0, c1, c2, x1, x2, x3⟩ := hcell k hlt
      obtain ⟨p, hp⟩ : ∃ p, f k = p := ⟨_, rfl⟩
      rw [hp] at c0 c1 c2 x1 x2 x3
      clear hp hcell
      have i0 : (0 : Int) ≤ (k : Int) := by omega
      have i1 : (k : Int) < (m : Int) := by omega
      have HK2 := hide (HK.out.below (below_alloc wr (.cells #[.int .i64 p.x, .int .i64 p.y, .int .i64 p.d] 33)))
      obtain ⟨d0, d1, d2⟩ := (Bx.new wr [.int .i64 p.x, .int .i64 p.y, .int .i64 p.d] 33).three
      go_wp2_with fail
      refine (HT.out p _).mono ?_
      rintro e w5 ⟨rfl, hb⟩
      have HK3 := hide (HK2.out.below hb)
      clear hb HK2 HK c0 c1 c2 d0 d1 d2 x1 x2 x3
      go_wp2_with fail
      go_roundw
      case rel => exact ⟨k + 1, by omega, by go_num, HK3.out⟩
      case measure => simp [intOf]; omega
    · obtain rfl : k = m := by omega
      go_wp2_with fail
      refine (HA.out _ HK.out.2.2.2).mono ?_
      rintro e w9 ⟨rfl, hb⟩
      have HB9 := hide (HK.out.below hb).2.2.1
      clear hb
      go_wp2_with fail
      go_ret
      exact ⟨rfl, HB9.out⟩

set_option maxRecDepth 100000 in
set_option maxHeartbeats 8000000 in
theorem ShearAsks_ok (b o c : Nat) (l : Sl) (B : Option Addr) (m cap : Nat) (f : Nat → Pl3) (w : World) (h : IY w (some ⟨b, o, none⟩) 4 c l.list) (hp : PY w B m f) (ht : Tab w) (hm : m ≤ 60) (hE : slC l.list = 0) (hlo : l.ok) :
    Calls Tryd.prog 3 #[.slice (some ⟨b, o, none⟩) 4 c, .slice B m cap] w (Says w (.bool true)) := by
  have HN := hide (fun (w : World) (h : IY w (some ⟨b, o, none⟩) 4 c l.list) (t : Tab w) => SNew_any (some ⟨b, o, none⟩) 4 c l.list w h t)
  have HC := hide (fun (w : World) (h : IY w (some ⟨b, o, none⟩) 4 c l.list) (t : Tab w) => SCheck_any (some ⟨b, o, none⟩) 4 c l.list w h t)
  have HD := hide (fun (w : World) (h : IY w (some ⟨b, o, none⟩) 4 c l.list) => RSCheck_any (some ⟨b, o, none⟩) 4 c l.list w h)
  have HA := hide (fun w h => alive22_any w h)
  have HW := hide (SAskW.start h hp ht)
  have hz2 : (m : Int) ≤ 60 := by omega
  have HT := hide (fun (g : Nat) (p : Pl3) (w : World) (h : Bx w g l.cells) => SAt_any g l p.x p.y p.d w h hlo)
  have HRT := hide (fun (x y : Int) (w : World) (h : IY w (some ⟨b, o, none⟩) 4 c l.list) (hx : -2097168 ≤ x ∧ x ≤ 2097168) (hy : -2097168 ≤ y ∧ y ≤ 2097168) => Pixel_any l b o c x y w h hlo hx hy)
  have HR := hide (fun (p : Pl3) w => RRight_any p.x p.y p.d w)
  have HBN := hide (fun (g : Nat) (w : World) (h : Bx w g l.cells) => Bounds_any g l w h hlo)
  have HRB := hide (fun (w : World) (h : IY w (some ⟨b, o, none⟩) 4 c l.list) => RBounds_any l b o c w h hlo)
  obtain ⟨sa, hsa⟩ : ∃ s, bdX l = s := ⟨_, rfl⟩
  obtain ⟨sb, hsb⟩ : ∃ s, bdY l = s := ⟨_, rfl⟩
  rw [hsa, hsb] at HBN HRB
  have HE0 := hide (show ∀ w e w', SNewQ l.list w e w' → Below w.heap.size w w' ∧ ∃ g, e = .returned (.tuple #[.pointer (some ⟨g, 0, none⟩), .int .i64 0]) ∧ Bx w' g l.cells from fun w e w' ⟨q1, q2⟩ => ⟨q1, by
    rcases q2 with ⟨_, l', g, q4, _, q5, q6⟩ | ⟨q3, _⟩
    · obtain rfl : l = l' := by
        obtain ⟨a1, a2, a3, a4⟩ := l
        obtain ⟨b1, b2, b3, b4⟩ := l'
        simp [Sl.list] at q4
        obtain ⟨rfl, rfl, rfl, rfl⟩ := q4
        rfl
      exact ⟨g, q5, q6⟩
    · exact absurd hE q3⟩)
  have HN' := hide (fun (w : World) (h : IY w (some ⟨b, o, none⟩) 4 c l.list) (t : Tab w) => (HN.out w h t).mono (fun e w' q => HE0.out w e w' q))
  rw [hE] at HC HD
  have hlo' := hide hlo
  clear HN HE0 h hp hm hE hlo hsa hsb ht
  go_enter Tryd.func3, Tryd.ntmps3
  go_wp2_with fail
  refine (HN'.out _ HW.out.1 HW.out.2.2.2).mono ?_
  rintro e w1 ⟨hb, g, rfl, hx⟩
  have HW1 := hide (HW.out.below hb)
  have HX1 := hide hx
  clear HW hb hx
  go_wp2_with fail
  refine (HD.out _ HW1.out.1).mono ?_
  rintro e w2 ⟨rfl, rfl⟩
  go_wp2_with fail
  refine (HC.out _ HW1.out.1 HW1.out.2.2.2).mono ?_
  rintro e w3 ⟨rfl, rfl⟩
  go_wp2_with fail
  refine (HBN.out _ _ HX1.out).mono ?_
  rintro e w4 ⟨rfl, hb⟩
  have HW2 := hide (HW1.out.below hb)
  have HX2 := hide (HX1.out.below hb)
  clear hb HW1 HX1
  go_wp2_with fail
  refine (HRB.out _ HW2.out.1).mono ?_
  rintro e w5 ⟨rfl, hb⟩
  have HW3 := hide (HW2.out.below hb)
  have HX3 := hide (HX2.out.below hb)
  clear hb HW2 HX2
  go_wp2_with fail
  go_loopw [79] (fun i wr => ∃ k : Nat, k ≤ m ∧ i = .int .i64 k ∧ SAskW w (some ⟨b, o, none⟩) 4 c l.list B m f wr ∧ Bx wr g l.cells) (fun i _ => m - (intOf i).toNat)
  case atStart => exact ⟨0, Nat.zero_le _, rfl, HW3.out, HX3.out⟩
  case round =>
    clear HW3 HX3
    obtain ⟨k, hk, rfl, hK, hX⟩ := hrel
    have HK := hide hK
    have HX := hide hX
    clear hK hX
    by_cases hlt : k < m
    · obtain ⟨bb, oo, rfl, _, hcell⟩ := HK.out.2.1 (by omega)
      obtain ⟨c0, c1, c2, x1, x2, x3⟩ := hcell k hlt
      obtain ⟨p, hp⟩ : ∃ p, f k = p := ⟨_, rfl⟩
      rw [hp] at c0 c1 c2 x1 x2 x3
      clear hp hcell x1 x2 x3
      have i0 : (0 : Int) ≤ (k : Int) := by omega
      have i1 : (k : Int) < (m : Int) := by omega
      have HK2 := hide (HK.out.below (below_alloc wr (.cells #[.int .i64 p.x, .int .i64 p.y, .int .i64 p.d] 33)))
      have HX2 := hide (HX.out.alloc (.cells #[.int .i64 p.x, .int .i64 p.y, .int .i64 p.d] 33))
      have HPB := hide (Bx.new wr [.int .i64 p.x, .int .i64 p.y, .int .i64 p.d] 33)
      obtain ⟨d0, d1, d2⟩ := HPB.out.three
      have HTT := hide (fun w h => HT.out g p w h)
      have HRR := hide (HR.out p)
      by_cases kr : RightZ p.x p.y p.d
      · rw [decide_eq_true kr] at HRR
        rw [if_pos kr] at HTT
        have n1 := nearZ_bound kr.1 kr.2.2
        have n2 := nearZ_bound kr.2.1 kr.2.2
        have r1 := kr.1
        have r2 := kr.2.1
        have r3 := kr.2.2
        unfold InZ at r1 r2
        have HN1 := hide (fun w => (Nearest_any p.x p.d w (by omega) (by omega)).mono fun e w' k => (⟨k.1, by rw [← k.2]; exact Below.refl _ _⟩ : Says w _ e w'))
        have HN2 := hide (fun w => (Nearest_any p.y p.d w (by omega) (by omega)).mono fun e w' k => (⟨k.1, by rw [← k.2]; exact Below.refl _ _⟩ : Says w _ e w'))
        have HRA := hide (fun w h => HRT.out (nearZ p.x p.d) (nearZ p.y p.d) w h n1 n2)
        have hX : shX l p.x p.y p.d = 65536 * wholeX l (nearZ p.x p.d) (nearZ p.y p.d) := rfl
        have hY : shY l p.x p.y p.d = 65536 * wholeY l (nearZ p.x p.d) (nearZ p.y p.d) := rfl
        rw [hX, hY] at HTT
        have wb := whole_near hlo'.out n1 n2
        obtain ⟨nx, hnx⟩ : ∃ v, nearZ p.x p.d = v := ⟨_, rfl⟩
        obtain ⟨ny, hny⟩ : ∃ v, nearZ p.y p.d = v := ⟨_, rfl⟩
        rw [hnx] at HN1 HTT HRA wb
        rw [hny] at HN2 HTT HRA wb
        obtain ⟨U, hU⟩ : ∃ v, wholeX l nx ny = v := ⟨_, rfl⟩
        obtain ⟨V, hV⟩ : ∃ v, wholeY l nx ny = v := ⟨_, rfl⟩
        rw [hU] at HTT HRA wb
        rw [hV] at HTT HRA wb
        have g1 : wrap64 (65536 * U) = 65536 * U := IntWalk.wrap64_in _ (by omega)
        have g2 : wrap64 (65536 * V) = 65536 * V := IntWalk.wrap64_in _ (by omega)
        clear kr n1 n2 r1 r2 r3 hX hY wb hnx hny hU hV
        go_wp2_with fail
        refine (HTT.out _ HX2.out).mono ?_
        rintro e w5 ⟨rfl, hb⟩
        have HK3 := hide (HK2.out.below hb)
        have HX3 := hide (HX2.out.below hb)
        have HP3 := hide (HPB.out.below hb)
        clear hb HK2 HX2 HPB HK HX c0 c1 c2 d0 d1 d2
        obtain ⟨d0, d1, d2⟩ := HP3.out.three
        go_wp2_with fail
        refine (HRR.out _).mono ?_
        rintro e w6 ⟨rfl, rfl⟩
        go_wp2_with fail
        replace d0 := cell_regrown d0
        replace d1 := cell_regrown d1
        replace d2 := cell_regrown d2
        refine wp_region_quiet_below (by kernel_rfl) (by kernel_rfl) ?_
        iterate 17 (go_big_quiet_step ((first | (go_at_call_of 15 (Value.int .i64 p.x); exact Calls.regrown_of (HN1.out _)) | (go_at_call 15; exact Calls.regrown_of (HN2.out _)) | (go_at_call 14; exact Calls.regrown_of (HRA.out _ (HK3.out.1.below (below_regrown _ _ _)))))))
        refine wpQuiet_nil ?_
        rintro w7 ⟨pw7, hw7⟩
        have HJ7 := below_regrown w5 pw7.d pw7.os
        rw [← hw7] at HJ7
        have HK4 := hide (HK3.out.below HJ7)
        have HX4 := hide (HX3.out.below HJ7)
        clear HJ7 hw7 HK3 HX3 d0 d1 d2 HP3
        go_wp2_with fail
        go_roundw
        case rel => exact ⟨k + 1, by omega, by go_num, HK4.out, HX4.out⟩
        case measure => simp [intOf]; omega
      · rw [decide_eq_false kr] at HRR
        rw [if_neg kr] at HTT
        clear kr
        go_wp2_with fail
        refine (HTT.out _ HX2.out).mono ?_
        rintro e w5 ⟨rfl, hb⟩
        have HK3 := hide (HK2.out.below hb)
        have HX3 := hide (HX2.out.below hb)
        have HP3 := hide (HPB.out.below hb)
        clear hb HK2 HX2 HPB HK HX c0 c1 c2 d0 d1 d2
        obtain ⟨d0, d1, d2⟩ := HP3.out.three
        go_wp2_with fail
        refine (HRR.out _).mono ?_
        rintro e w6 ⟨rfl, rfl⟩
        go_wp2_with fail
        go_roundw
        case rel => exact ⟨k + 1, by omega, by go_num, HK3.out, HX3.out⟩
        case measure => simp [intOf]; omega
    · obtain rfl : k = m := by omega
      go_wp2_with fail
      refine (HA.out _ HK.out.2.2.2).mono ?_
      rintro e w9 ⟨rfl, hb⟩
      have HB9 := hide (HK.out.below hb).2.2.1
      clear hb
      go_wp2_with fail
      go_ret
      exact ⟨rfl, HB9.out⟩

theorem ShearAsks_walk (A : Option Addr) (n c : Nat) (xs : List Int) (B : Option Addr) (m cap : Nat) (f : Nat → Pl3) (w : World) (h : IY w A n c xs) (hp : PY w B m f) (ht : Tab w) :
    Calls Tryd.prog 3 #[.slice A n c, .slice B m cap] w (Says w (.bool true)) := by
  by_cases h1 : 60 < n
  · have i1 : (60 : Int) < (n : Int) := by omega
    have HB := hide (Below.refl w.heap.size w)
    clear h hp ht
    go_enter Tryd.func3, Tryd.ntmps3
    go_wp2_with fail
    go_ret
    exact ⟨rfl, HB.out⟩
  · by_cases h2 : 60 < m
    · have i1 : ¬ (60 : Int) < (n : Int) := by omega
      have i2 : (60 : Int) < (m : Int) := by omega
      have HB := hide (Below.refl w.heap.size w)
      clear h hp ht
      go_enter Tryd.func3, Tryd.ntmps3
      go_wp2_with fail
      go_ret
      exact ⟨rfl, HB.out⟩
    · by_cases hE : slC xs = 0
      · obtain ⟨l, rfl, hl⟩ := slC_zero hE
        obtain rfl : 4 = n := h.1
        obtain ⟨b, o, rfl⟩ := h.somewhere (by omega)
        exact ShearAsks_ok b o c l B m cap f w h hp ht (by omega) hE hl
      · exact ShearAsks_bad A n c xs B m cap f w h hp ht (by omega) (by omega) hE
end Go.Proofs.YtgcnmffbhjlolabDoor
