/-
The law ShearOnce: its walk. No statement is proved here.
-/
import Derived.Test.YtgcnmffbhjlolabDoorShr5
namespace Go.Proofs.YtgcnmffbhjlolabDoor
open Go.RowKit

set_option maxRecDepth 100000 in
set_option maxHeartbeats 8000000 in
theorem ShearOnce_ok (l : Sl) (b o c : Nat) (x y : Int) (w : World) (ht : Tab w) (h : IY w (some ⟨b, o, none⟩) 4 c l.list) (hl : l.ok) :
    Calls Tryd.prog 4 #[.slice (some ⟨b, o, none⟩) 4 c, .int .i64 x, .int .i64 y] w (Says w (.bool true)) := by
  have HN := hide (SNew_any (some ⟨b, o, none⟩) 4 c l.list w h ht)
  have HE0 := hide (show ∀ e w', SNewQ l.list w e w' → Below w.heap.size w w' ∧ ∃ g, e = .returned (.tuple #[.pointer (some ⟨g, 0, none⟩), .int .i64 0]) ∧ Bx w' g l.cells from fun e w' ⟨q1, q2⟩ => ⟨q1, by
    rcases q2 with ⟨_, l', g, q4, _, q5, q6⟩ | ⟨q3, _⟩
    · obtain rfl : l = l' := by
        obtain ⟨a1, a2, a3, a4⟩ := l
        obtain ⟨b1, b2, b3, b4⟩ := l'
        simp [Sl.list] at q4
        obtain ⟨rfl, rfl, rfl, rfl⟩ := q4
        rfl
      exact ⟨g, q5, q6⟩
    · exact absurd (by rw [slC_four, if_pos hl]) q3⟩)
  have HN' := hide (HN.out.mono (fun e w' q => HE0.out e w' q))
  have HT2 := hide (fun (g : Nat) (w : World) (h : Bx w g l.cells) => SAt_any g l x y 1 w h hl)
  have HT1 := hide (fun (g : Nat) (w : World) (h : Bx w g l.cells) => SAt_any g l (bkX l x y) (bkY l x y) 1 w h hl)
  have HK1 := hide (fun (g : Nat) (w : World) (h : Bx w g l.cells) => Back_any g l x y w h hl)
  have HK2 := hide (fun (g : Nat) (w : World) (h : Bx w g l.cells) => Back_any g l (wholeX l x y) (wholeY l x y) w h hl)
  have HR := hide (fun w => RRight_any (bkX l x y) (bkY l x y) 1 w)
  have HA := hide (fun w h => alive22_any w h)
  have HI1 := hide (fun w => In_any x 536870912 w (by decide))
  have HI2 := hide (fun w => In_any y 536870912 w (by decide))
  have HTab := hide ht
  have hlo := hide hl
  clear ht h hl HN HE0
  go_enter Tryd.func4, Tryd.ntmps4
  go_wp2_with fail
  refine HN'.out.mono ?_
  rintro e w1 ⟨hb, g, rfl, hx⟩
  have HB1 := hide hb
  have HX1 := hide hx
  clear hb hx
  go_wp2_with fail
  by_cases k1 : InZ x 536870912
  · rw [decide_eq_true k1] at HI1
    by_cases k2 : InZ y 536870912
    · rw [decide_eq_true k2] at HI2
      rw [if_pos ⟨k1, k2⟩] at HK1
      have e1 : wrap64 (65536 * x) = 65536 * x := IntWalk.wrap64_in _ (by unfold InZ at k1; omega)
      have e2 : wrap64 (65536 * y) = 65536 * y := IntWalk.wrap64_in _ (by unfold InZ at k2; omega)
      by_cases kp : RightZ (bkX l x y) (bkY l x y) 1
      · rw [decide_eq_true kp] at HR
        rw [if_pos kp, (sh_bk l x y).1, (sh_bk l x y).2] at HT1
        obtain ⟨p, hp⟩ : ∃ p, bkX l x y = p := ⟨_, rfl⟩
        obtain ⟨q, hq⟩ : ∃ q, bkY l x y = q := ⟨_, rfl⟩
        rw [hp, hq] at HR HT1 HK1
        clear k1 k2 kp hp hq
        refine (HK1.out _ _ HX1.out).mono ?_
        rintro e w2 ⟨rfl, hb⟩
        have HB2 := hide (HB1.out.trans (hb.mono HB1.out.size))
        have HX2 := hide (HX1.out.below hb)
        clear hb
        go_wp2_with fail
        refine (HI1.out _).mono ?_
        rintro e wi ⟨rfl, rfl⟩
        go_wp2_with fail
        refine (HI2.out _).mono ?_
        rintro e wi ⟨rfl, rfl⟩
        go_wp2_with fail
        refine (HR.out _).mono ?_
        rintro e wi ⟨rfl, rfl⟩
        go_wp2_with fail
        refine (HT1.out _ _ HX2.out).mono ?_
        rintro e w3 ⟨rfl, hb⟩
        have HB3 := hide (HB2.out.trans (hb.mono HB2.out.size))
        have HX3 := hide (HX2.out.below hb)
        clear hb
        go_wp2_with fail
        by_cases kr : RightZ x y 1
        · have kw := whole_in hlo.out kr
          rw [if_pos kr, (sh_whole l x y).1, (sh_whole l x y).2] at HT2
          rw [if_pos kw, (bk_whole l x y).1, (bk_whole l x y).2] at HK2
          have g1 : wrap64 ((65536 * wholeX l x y).tdiv 65536) = wholeX l x y := by rw [tdiv_whole]; exact IntWalk.wrap64_in _ (by have := kw.1; unfold InZ at this; omega)
          have g2 : wrap64 ((65536 * wholeY l x y).tdiv 65536) = wholeY l x y := by rw [tdiv_whole]; exact IntWalk.wrap64_in _ (by have := kw.2; unfold InZ at this; omega)
          have g3 : IntKind.i64.wrap ((65536 * wholeX l x y).tdiv 65536) = wholeX l x y := by rw [tdiv_whole]; exact IntWalk.i64_in _ (by have := kw.1; unfold InZ at this; omega)
          have g4 : IntKind.i64.wrap ((65536 * wholeY l x y).tdiv 65536) = wholeY l x y := by rw [tdiv_whole]; exact IntWalk.i64_in _ (by have := kw.2; unfold InZ at this; omega)
          have HW1 := hide (fun w => In_any (wholeX l x y) 536870912 w (by decide))
          have HW2 := hide (fun w => In_any (wholeY l x y) 536870912 w (by decide))
          rw [decide_eq_true kw.1] at HW1
          rw [decide_eq_true kw.2] at HW2
          clear kr kw
          obtain ⟨kx, hkx⟩ : ∃ k, wholeX l x y = k := ⟨_, rfl⟩
          obtain ⟨ky, hky⟩ : ∃ k, wholeY l x y = k := ⟨_, rfl⟩
          rw [hkx] at HT2 HK2 g1 g3 HW1
          rw [hky] at HT2 HK2 g2 g4 HW2
          clear hkx hky
          obtain ⟨U, hU⟩ : ∃ k, 65536 * kx = k := ⟨_, rfl⟩
          obtain ⟨V, hV⟩ : ∃ k, 65536 * ky = k := ⟨_, rfl⟩
          rw [hU] at HT2 g1 g3
          rw [hV] at HT2 g2 g4
          clear hU hV
          go_wp2_with fail
          refine (HT2.out _ _ HX3.out).mono ?_
          rintro e wa ⟨rfl, hb⟩
          have HBa := hide (HB3.out.trans (hb.mono HB3.out.size))
          have Xa := hide (HX3.out.below hb)
          clear hb
          go_wp2_with fail
          refine (HK2.out _ _ Xa.out).mono ?_
          rintro e wb ⟨rfl, hb⟩
          have HBb := hide (HBa.out.trans (hb.mono HBa.out.size))
          clear hb
          go_wp2_with fail
          refine (HW1.out _).mono ?_
          rintro e wc ⟨rfl, rfl⟩
          go_wp2_with fail
          refine (HW2.out _).mono ?_
          rintro e wc ⟨rfl, rfl⟩
          go_wp2_with fail
          refine (HA.out _ (HTab.out.below HBb.out)).mono ?_
          rintro e w9 ⟨rfl, hb⟩
          have HB9 := hide (HBb.out.trans (hb.mono HBb.out.size))
          clear hb
          go_wp2_with fail
          go_ret
          exact ⟨rfl, HB9.out⟩
        · rw [if_neg kr] at HT2
          clear kr
          go_wp2_with fail
          refine (HT2.out _ _ HX3.out).mono ?_
          rintro e wa ⟨rfl, hb⟩
          have HBa := hide (HB3.out.trans (hb.mono HB3.out.size))
          clear hb
          go_wp2_with fail
          refine (HA.out _ (HTab.out.below HBa.out)).mono ?_
          rintro e w9 ⟨rfl, hb⟩
          have HB9 := hide (HBa.out.trans (hb.mono HBa.out.size))
          clear hb
          go_wp2_with fail
          go_ret
          exact ⟨rfl, HB9.out⟩
      · rw [decide_eq_false kp] at HR
        obtain ⟨p, hp⟩ : ∃ p, bkX l x y = p := ⟨_, rfl⟩
        obtain ⟨q, hq⟩ : ∃ q, bkY l x y = q := ⟨_, rfl⟩
        rw [hp, hq] at HR HK1
        clear k1 k2 kp hp hq HT1
        refine (HK1.out _ _ HX1.out).mono ?_
        rintro e w2 ⟨rfl, hb⟩
        have HB2 := hide (HB1.out.trans (hb.mono HB1.out.size))
        have HX2 := hide (HX1.out.below hb)
        clear hb
        go_wp2_with fail
        refine (HI1.out _).mono ?_
        rintro e wi ⟨rfl, rfl⟩
        go_wp2_with fail
        refine (HI2.out _).mono ?_
        rintro e wi ⟨rfl, rfl⟩
        go_wp2_with fail
        refine (HR.out _).mono ?_
        rintro e wi ⟨rfl, rfl⟩
        go_wp2_with fail
        by_cases kr : RightZ x y 1
        · have kw := whole_in hlo.out kr
          rw [if_pos kr, (sh_whole l x y).1, (sh_whole l x y).2] at HT2
          rw [if_pos kw, (bk_whole l x y).1, (bk_whole l x y).2] at HK2
          have g1 : wrap64 ((65536 * wholeX l x y).tdiv 65536) = wholeX l x y := by rw [tdiv_whole]; exact IntWalk.wrap64_in _ (by have := kw.1; unfold InZ at this; omega)
          have g2 : wrap64 ((65536 * wholeY l x y).tdiv 65536) = wholeY l x y := by rw [tdiv_whole]; exact IntWalk.wrap64_in _ (by have := kw.2; unfold InZ at this; omega)
          have g3 : IntKind.i64.wrap ((65536 * wholeX l x y).tdiv 65536) = wholeX l x y := by rw [tdiv_whole]; exact IntWalk.i64_in _ (by have := kw.1; unfold InZ at this; omega)
          have g4 : IntKind.i64.wrap ((65536 * wholeY l x y).tdiv 65536) = wholeY l x y := by rw [tdiv_whole]; exact IntWalk.i64_in _ (by have := kw.2; unfold InZ at this; omega)
          have HW1 := hide (fun w => In_any (wholeX l x y) 536870912 w (by decide))
          have HW2 := hide (fun w => In_any (wholeY l x y) 536870912 w (by decide))
          rw [decide_eq_true kw.1] at HW1
          rw [decide_eq_true kw.2] at HW2
          clear kr kw
          obtain ⟨kx, hkx⟩ : ∃ k, wholeX l x y = k := ⟨_, rfl⟩
          obtain ⟨ky, hky⟩ : ∃ k, wholeY l x y = k := ⟨_, rfl⟩
          rw [hkx] at HT2 HK2 g1 g3 HW1
          rw [hky] at HT2 HK2 g2 g4 HW2
          clear hkx hky
          obtain ⟨U, hU⟩ : ∃ k, 65536 * kx = k := ⟨_, rfl⟩
          obtain ⟨V, hV⟩ : ∃ k, 65536 * ky = k := ⟨_, rfl⟩
          rw [hU] at HT2 g1 g3
          rw [hV] at HT2 g2 g4
          clear hU hV
          go_wp2_with fail
          refine (HT2.out _ _ HX2.out).mono ?_
          rintro e wa ⟨rfl, hb⟩
          have HBa := hide (HB2.out.trans (hb.mono HB2.out.size))
          have Xa := hide (HX2.out.below hb)
          clear hb
          go_wp2_with fail
          refine (HK2.out _ _ Xa.out).mono ?_
          rintro e wb ⟨rfl, hb⟩
          have HBb := hide (HBa.out.trans (hb.mono HBa.out.size))
          clear hb
          go_wp2_with fail
          refine (HW1.out _).mono ?_
          rintro e wc ⟨rfl, rfl⟩
          go_wp2_with fail
          refine (HW2.out _).mono ?_
          rintro e wc ⟨rfl, rfl⟩
          go_wp2_with fail
          refine (HA.out _ (HTab.out.below HBb.out)).mono ?_
          rintro e w9 ⟨rfl, hb⟩
          have HB9 := hide (HBb.out.trans (hb.mono HBb.out.size))
          clear hb
          go_wp2_with fail
          go_ret
          exact ⟨rfl, HB9.out⟩
        · rw [if_neg kr] at HT2
          clear kr
          go_wp2_with fail
          refine (HT2.out _ _ HX2.out).mono ?_
          rintro e wa ⟨rfl, hb⟩
          have HBa := hide (HB2.out.trans (hb.mono HB2.out.size))
          clear hb
          go_wp2_with fail
          refine (HA.out _ (HTab.out.below HBa.out)).mono ?_
          rintro e w9 ⟨rfl, hb⟩
          have HB9 := hide (HBa.out.trans (hb.mono HBa.out.size))
          clear hb
          go_wp2_with fail
          go_ret
          exact ⟨rfl, HB9.out⟩
    · rw [decide_eq_false k2] at HI2
      rw [if_neg (fun z => k2 z.2)] at HK1
      clear k1 k2 HT1 HR
      refine (HK1.out _ _ HX1.out).mono ?_
      rintro e w2 ⟨rfl, hb⟩
      have HB2 := hide (HB1.out.trans (hb.mono HB1.out.size))
      have HX2 := hide (HX1.out.below hb)
      clear hb
      go_wp2_with fail
      refine (HI1.out _).mono ?_
      rintro e wi ⟨rfl, rfl⟩
      go_wp2_with fail
      refine (HI2.out _).mono ?_
      rintro e wi ⟨rfl, rfl⟩
      go_wp2_with fail
      by_cases kr : RightZ x y 1
      · have kw := whole_in hlo.out kr
        rw [if_pos kr, (sh_whole l x y).1, (sh_whole l x y).2] at HT2
        rw [if_pos kw, (bk_whole l x y).1, (bk_whole l x y).2] at HK2
        have g1 : wrap64 ((65536 * wholeX l x y).tdiv 65536) = wholeX l x y := by rw [tdiv_whole]; exact IntWalk.wrap64_in _ (by have := kw.1; unfold InZ at this; omega)
        have g2 : wrap64 ((65536 * wholeY l x y).tdiv 65536) = wholeY l x y := by rw [tdiv_whole]; exact IntWalk.wrap64_in _ (by have := kw.2; unfold InZ at this; omega)
        have g3 : IntKind.i64.wrap ((65536 * wholeX l x y).tdiv 65536) = wholeX l x y := by rw [tdiv_whole]; exact IntWalk.i64_in _ (by have := kw.1; unfold InZ at this; omega)
        have g4 : IntKind.i64.wrap ((65536 * wholeY l x y).tdiv 65536) = wholeY l x y := by rw [tdiv_whole]; exact IntWalk.i64_in _ (by have := kw.2; unfold InZ at this; omega)
        have HW1 := hide (fun w => In_any (wholeX l x y) 536870912 w (by decide))
        have HW2 := hide (fun w => In_any (wholeY l x y) 536870912 w (by decide))
        rw [decide_eq_true kw.1] at HW1
        rw [decide_eq_true kw.2] at HW2
        clear kr kw
        obtain ⟨kx, hkx⟩ : ∃ k, wholeX l x y = k := ⟨_, rfl⟩
        obtain ⟨ky, hky⟩ : ∃ k, wholeY l x y = k := ⟨_, rfl⟩
        rw [hkx] at HT2 HK2 g1 g3 HW1
        rw [hky] at HT2 HK2 g2 g4 HW2
        clear hkx hky
        obtain ⟨U, hU⟩ : ∃ k, 65536 * kx = k := ⟨_, rfl⟩
        obtain ⟨V, hV⟩ : ∃ k, 65536 * ky = k := ⟨_, rfl⟩
        rw [hU] at HT2 g1 g3
        rw [hV] at HT2 g2 g4
        clear hU hV
        go_wp2_with fail
        refine (HT2.out _ _ HX2.out).mono ?_
        rintro e wa ⟨rfl, hb⟩
        have HBa := hide (HB2.out.trans (hb.mono HB2.out.size))
        have Xa := hide (HX2.out.below hb)
        clear hb
        go_wp2_with fail
        refine (HK2.out _ _ Xa.out).mono ?_
        rintro e wb ⟨rfl, hb⟩
        have HBb := hide (HBa.out.trans (hb.mono HBa.out.size))
        clear hb
        go_wp2_with fail
        refine (HW1.out _).mono ?_
        rintro e wc ⟨rfl, rfl⟩
        go_wp2_with fail
        refine (HW2.out _).mono ?_
        rintro e wc ⟨rfl, rfl⟩
        go_wp2_with fail
        refine (HA.out _ (HTab.out.below HBb.out)).mono ?_
        rintro e w9 ⟨rfl, hb⟩
        have HB9 := hide (HBb.out.trans (hb.mono HBb.out.size))
        clear hb
        go_wp2_with fail
        go_ret
        exact ⟨rfl, HB9.out⟩
      · rw [if_neg kr] at HT2
        clear kr
        go_wp2_with fail
        refine (HT2.out _ _ HX2.out).mono ?_
        rintro e wa ⟨rfl, hb⟩
        have HBa := hide (HB2.out.trans (hb.mono HB2.out.size))
        clear hb
        go_wp2_with fail
        refine (HA.out _ (HTab.out.below HBa.out)).mono ?_
        rintro e w9 ⟨rfl, hb⟩
        have HB9 := hide (HBa.out.trans (hb.mono HBa.out.size))
        clear hb
        go_wp2_with fail
        go_ret
        exact ⟨rfl, HB9.out⟩
  · rw [decide_eq_false k1] at HI1
    rw [if_neg (fun z => k1 z.1)] at HK1
    clear k1 HT1 HR
    refine (HK1.out _ _ HX1.out).mono ?_
    rintro e w2 ⟨rfl, hb⟩
    have HB2 := hide (HB1.out.trans (hb.mono HB1.out.size))
    have HX2 := hide (HX1.out.below hb)
    clear hb
    go_wp2_with fail
    refine (HI1.out _).mono ?_
    rintro e wi ⟨rfl, rfl⟩
    go_wp2_with fail
    by_cases kr : RightZ x y 1
    · have kw := whole_in hlo.out kr
      rw [if_pos kr, (sh_whole l x y).1, (sh_whole l x y).2] at HT2
      rw [if_pos kw, (bk_whole l x y).1, (bk_whole l x y).2] at HK2
      have g1 : wrap64 ((65536 * wholeX l x y).tdiv 65536) = wholeX l x y := by rw [tdiv_whole]; exact IntWalk.wrap64_in _ (by have := kw.1; unfold InZ at this; omega)
      have g2 : wrap64 ((65536 * wholeY l x y).tdiv 65536) = wholeY l x y := by rw [tdiv_whole]; exact IntWalk.wrap64_in _ (by have := kw.2; unfold InZ at this; omega)
      have g3 : IntKind.i64.wrap ((65536 * wholeX l x y).tdiv 65536) = wholeX l x y := by rw [tdiv_whole]; exact IntWalk.i64_in _ (by have := kw.1; unfold InZ at this; omega)
      have g4 : IntKind.i64.wrap ((65536 * wholeY l x y).tdiv 65536) = wholeY l x y := by rw [tdiv_whole]; exact IntWalk.i64_in _ (by have := kw.2; unfold InZ at this; omega)
      have HW1 := hide (fun w => In_any (wholeX l x y) 536870912 w (by decide))
      have HW2 := hide (fun w => In_any (wholeY l x y) 536870912 w (by decide))
      rw [decide_eq_true kw.1] at HW1
      rw [decide_eq_true kw.2] at HW2
      clear kr kw
      obtain ⟨kx, hkx⟩ : ∃ k, wholeX l x y = k := ⟨_, rfl⟩
      obtain ⟨ky, hky⟩ : ∃ k, wholeY l x y = k := ⟨_, rfl⟩
      rw [hkx] at HT2 HK2 g1 g3 HW1
      rw [hky] at HT2 HK2 g2 g4 HW2
      clear hkx hky
      obtain ⟨U, hU⟩ : ∃ k, 65536 * kx = k := ⟨_, rfl⟩
      obtain ⟨V, hV⟩ : ∃ k, 65536 * ky = k := ⟨_, rfl⟩
      rw [hU] at HT2 g1 g3
      rw [hV] at HT2 g2 g4
      clear hU hV
      go_wp2_with fail
      refine (HT2.out _ _ HX2.out).mono ?_
      rintro e wa ⟨rfl, hb⟩
      have HBa := hide (HB2.out.trans (hb.mono HB2.out.size))
      have Xa := hide (HX2.out.below hb)
      clear hb
      go_wp2_with fail
      refine (HK2.out _ _ Xa.out).mono ?_
      rintro e wb ⟨rfl, hb⟩
      have HBb := hide (HBa.out.trans (hb.mono HBa.out.size))
      clear hb
      go_wp2_with fail
      refine (HW1.out _).mono ?_
      rintro e wc ⟨rfl, rfl⟩
      go_wp2_with fail
      refine (HW2.out _).mono ?_
      rintro e wc ⟨rfl, rfl⟩
      go_wp2_with fail
      refine (HA.out _ (HTab.out.below HBb.out)).mono ?_
      rintro e w9 ⟨rfl, hb⟩
      have HB9 := hide (HBb.out.trans (hb.mono HBb.out.size))
      clear hb
      go_wp2_with fail
      go_ret
      exact ⟨rfl, HB9.out⟩
    · rw [if_neg kr] at HT2
      clear kr
      go_wp2_with fail
      refine (HT2.out _ _ HX2.out).mono ?_
      rintro e wa ⟨rfl, hb⟩
      have HBa := hide (HB2.out.trans (hb.mono HB2.out.size))
      clear hb
      go_wp2_with fail
      refine (HA.out _ (HTab.out.below HBa.out)).mono ?_
      rintro e w9 ⟨rfl, hb⟩
      have HB9 := hide (HBa.out.trans (hb.mono HBa.out.size))
      clear hb
      go_wp2_with fail
      go_ret
      exact ⟨rfl, HB9.out⟩

set_option maxRecDepth 100000 in
set_option maxHeartbeats 4000000 in
theorem ShearOnce_bad (A : Option Addr) (n c : Nat) (xs : List Int) (x y : Int) (w : World) (ht : Tab w) (h : IY w A n c xs) (hE : slC xs ≠ 0) :
    Calls Tryd.prog 4 #[.slice A n c, .int .i64 x, .int .i64 y] w (Says w (.bool true)) := by
  have HN := hide (SNew_any A n c xs w h ht)
  have HE0 := hide (show ∀ e w', SNewQ xs w e w' → Below w.heap.size w w' ∧ e = .returned (.tuple #[.pointer none, .int .i64 (slC xs)]) from fun e w' ⟨q1, q2⟩ => ⟨q1, by
    rcases q2 with ⟨q3, _⟩ | ⟨_, q4⟩
    · exact absurd q3 hE
    · exact q4⟩)
  obtain ⟨v, hv⟩ : ∃ v, slC xs = v := ⟨_, rfl⟩
  rw [hv] at HE0 hE
  have HN' := hide (HN.out.mono (fun e w' q => HE0.out e w' q))
  have hE' : (v != 0) = true := by simpa using hE
  have hE2 : (v == 0) = false := by simpa using hE
  have HT2 := hide (fun w => SAt_nil x y 1 w)
  have HK1 := hide (fun w => Back_nil x y w)
  have HA := hide (fun w h => alive22_any w h)
  have HI1 := hide (fun w => In_any x 536870912 w (by decide))
  have HI2 := hide (fun w => In_any y 536870912 w (by decide))
  have HTab := hide ht
  clear ht h hv HN HE0
  go_enter Tryd.func4, Tryd.ntmps4
  go_wp2_with fail
  refine HN'.out.mono ?_
  rintro e w1 ⟨hb, rfl⟩
  have HB1 := hide hb
  clear hb
  go_wp2_with fail
  by_cases k1 : InZ x 536870912
  · rw [decide_eq_true k1] at HI1
    obtain ⟨b2, hb2⟩ : ∃ v, decide (InZ y 536870912) = v := ⟨_, rfl⟩
    rw [hb2] at HI2
    clear k1 hb2
    refine (HK1.out _).mono ?_
    rintro e w2 ⟨rfl, hb⟩
    have HB2 := hide (HB1.out.trans (hb.mono HB1.out.size))
    clear hb
    go_wp2_with fail
    refine (HI1.out _).mono ?_
    rintro e wi ⟨rfl, rfl⟩
    go_wp2_with fail
    refine (HI2.out _).mono ?_
    rintro e wi ⟨rfl, rfl⟩
    go_wp2_with fail
    refine (HT2.out _).mono ?_
    rintro e w3 ⟨rfl, hb⟩
    have HB3 := hide (HB2.out.trans (hb.mono HB2.out.size))
    clear hb
    go_wp2_with fail
    refine (HA.out _ (HTab.out.below HB3.out)).mono ?_
    rintro e w9 ⟨rfl, hb⟩
    have HB9 := hide (HB3.out.trans (hb.mono HB3.out.size))
    clear hb
    go_wp2_with fail
    go_ret
    exact ⟨rfl, HB9.out⟩
  · rw [decide_eq_false k1] at HI1
    clear k1 HI2
    refine (HK1.out _).mono ?_
    rintro e w2 ⟨rfl, hb⟩
    have HB2 := hide (HB1.out.trans (hb.mono HB1.out.size))
    clear hb
    go_wp2_with fail
    refine (HI1.out _).mono ?_
    rintro e wi ⟨rfl, rfl⟩
    go_wp2_with fail
    refine (HT2.out _).mono ?_
    rintro e w3 ⟨rfl, hb⟩
    have HB3 := hide (HB2.out.trans (hb.mono HB2.out.size))
    clear hb
    go_wp2_with fail
    refine (HA.out _ (HTab.out.below HB3.out)).mono ?_
    rintro e w9 ⟨rfl, hb⟩
    have HB9 := hide (HB3.out.trans (hb.mono HB3.out.size))
    clear hb
    go_wp2_with fail
    go_ret
    exact ⟨rfl, HB9.out⟩

theorem ShearOnce_walk (A : Option Addr) (n c : Nat) (xs : List Int) (x y : Int) (w : World) (ht : Tab w) (h : IY w A n c xs) :
    Calls Tryd.prog 4 #[.slice A n c, .int .i64 x, .int .i64 y] w (Says w (.bool true)) := by
  by_cases hE : slC xs = 0
  · obtain ⟨l, rfl, hl⟩ := slC_zero hE
    obtain rfl : 4 = n := h.1
    obtain ⟨b, o, rfl⟩ := h.somewhere (by omega)
    exact ShearOnce_ok l b o c x y w ht h hl
  · exact ShearOnce_bad A n c xs x y w ht h hE
end Go.Proofs.YtgcnmffbhjlolabDoor
