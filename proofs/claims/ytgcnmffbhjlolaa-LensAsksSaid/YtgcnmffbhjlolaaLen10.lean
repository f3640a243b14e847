/-
Contracts of lenses: New, Check and the reference's Check of any numbers; the chapter's example. No statement is proved here.
-/
import Derived.Test.YtgcnmffbhjlolaaLen8
import Derived.Test.YtgcnmffbhjlolaaLen9
namespace Go.Proofs.Ytgcnmffbhjlolaa
open Go.RowKit

/-- what New answers -/
def NewQ (xs : List Int) (sw sh : Int) (w : World) (e : Ending) (w' : World) : Prop :=
  Below w.heap.size w w' ∧ ((lensE xs sw sh = 0 ∧ ∃ l : Ln, ∃ g, xs = l.list ∧ l.ok ∧ e = .returned (.tuple #[.pointer (some ⟨g, 0, none⟩), .int .i64 0]) ∧ Bx w' g l.cells) ∨
    (lensE xs sw sh ≠ 0 ∧ e = .returned (.tuple #[.pointer none, .int .i64 (lensE xs sw sh)])))
theorem seven {xs : List Int} (h : xs.length = 7) : ∃ l : Ln, xs = l.list := by
  obtain ⟨a, b, c, d, e, f, g, rfl⟩ := list7 xs h
  exact ⟨⟨a, b, c, d, e, f, g⟩, rfl⟩
theorem IY.some {w : World} {A : Option Addr} {n c : Nat} {xs : List Int} (h : IY w A n c xs) (hn : 0 < n) : ∃ b o, A = some ⟨b, o, none⟩ := by
  obtain ⟨b, o, e, _⟩ := h.2.2.2.2 hn
  exact ⟨b, o, e⟩
theorem New_any (A : Option Addr) (n c : Nat) (xs : List Int) (sw sh : Int) (w : World) (h : IY w A n c xs) : Calls Try.prog 7 #[.slice A n c, .int .i64 sw, .int .i64 sh] w (NewQ xs sw sh w) := by
  by_cases hn : n = 7
  · subst hn
    obtain ⟨b, o, rfl⟩ := h.some (by omega)
    obtain ⟨l, rfl⟩ := seven h.1
    by_cases h0 : lensC l.list sw sh = 0
    · refine (New_seven l b o c sw sh w h h0).mono ?_
      rintro e w' ⟨hb, g, rfl, _, hx⟩
      refine ⟨hb, ?_⟩
      rw [lensE_seven h0]
      by_cases k : l.seesAll sw sh
      · rw [if_pos k, if_pos k]
        obtain ⟨_, z1, z2, z3, _⟩ := lensC_zero h0
        exact .inl ⟨rfl, l, g, rfl, ⟨z1, z2, z3⟩, rfl, hx⟩
      · rw [if_neg k, if_neg k]
        exact .inr ⟨by decide, rfl⟩
    · refine (New_bad _ _ _ _ sw sh w (check_seven l b o c sw sh w h) h0).mono ?_
      rintro e w' ⟨rfl, rfl⟩
      exact ⟨Below.refl _ _, .inr ⟨by rw [lensE_bad h0]; exact h0, rfl⟩⟩
  · have h0 : lensC xs sw sh = 12 := by rw [lensC, if_pos (by rw [h.1]; exact hn)]
    refine (New_bad A n c xs sw sh w (check_other A n c xs sw sh w h hn) (by rw [h0]; decide)).mono ?_
    rintro e w' ⟨rfl, rfl⟩
    exact ⟨Below.refl _ _, .inr ⟨by rw [lensE_bad (by rw [h0]; decide), h0]; decide, rfl⟩⟩

theorem Check_any (A : Option Addr) (n c : Nat) (xs : List Int) (sw sh : Int) (w : World) (h : IY w A n c xs) : Calls Try.prog 9 #[.slice A n c, .int .i64 sw, .int .i64 sh] w (Says w (.int .i64 (lensE xs sw sh))) := by
  have H := hide (New_any A n c xs sw sh w h)
  clear h
  go_enter Try.func9, Try.ntmps9
  go_wp2_with fail
  refine H.out.mono ?_
  rintro e w1 ⟨hb, ⟨h0, l, g, rfl, hl, rfl, hx⟩ | ⟨h0, rfl⟩⟩
  · have HB := hide hb
    have H0 := Lib.hid h0
    clear h0 hb hx hl
    go_wp2_with fail
    go_ret
    exact ⟨by rw [H0.out]; rfl, HB.out⟩
  · have HB := hide hb
    clear h0 hb
    go_wp2_with fail
    go_ret
    exact ⟨rfl, HB.out⟩

theorem RCheck_any (A : Option Addr) (n c : Nat) (xs : List Int) (sw sh : Int) (w : World) (h : IY w A n c xs) : Calls Try.prog 8 #[.slice A n c, .int .i64 sw, .int .i64 sh] w (Says w (.int .i64 (lensE xs sw sh))) := by
  by_cases hn : n = 7
  · subst hn
    obtain ⟨b, o, rfl⟩ := h.some (by omega)
    obtain ⟨l, rfl⟩ := seven h.1
    obtain ⟨b', o', e', hlt, hcell⟩ := id (h.2.2.2.2 (by omega))
    cases e'
    have c0 : w.cell? ⟨b, o, none⟩ = some (.int .i64 l.cx) := hcell 0 (by omega)
    have c1 : w.cell? ⟨b, o + 1, none⟩ = some (.int .i64 l.cy) := hcell 1 (by omega)
    have c2 : w.cell? ⟨b, o + 2, none⟩ = some (.int .i64 l.f) := hcell 2 (by omega)
    have HI1 := hide (In_any l.cx 2147483648 w (by decide))
    have HI2 := hide (In_any l.cy 2147483648 w (by decide))
    have HB := hide (Below.refl w.heap.size w)
    have hE := lensC_seven l sw sh
    have hbad : lensC l.list sw sh = 11 → lensE l.list sw sh = 11 := fun k => by rw [lensE_bad (by rw [k]; decide), k]
    by_cases q1 : InZ l.cx 2147483648
    · by_cases q2 : InZ l.cy 2147483648
      · by_cases q3 : l.f < 1
        · rw [hbad (by rw [hE, if_neg (not_not_intro ⟨q1, q2⟩), if_pos q3])]
          rw [decide_eq_true q1] at HI1
          rw [decide_eq_true q2] at HI2
          clear h hcell hE hbad q1 q2
          go_enter Try.func8, Try.ntmps8
          go_wp2_with fail
          refine HI1.out.mono ?_
          rintro e w1 ⟨rfl, rfl⟩
          go_wp2_with fail
          refine HI2.out.mono ?_
          rintro e w1 ⟨rfl, rfl⟩
          go_wp2_with fail
          go_ret
          exact ⟨rfl, HB.out⟩
        · by_cases q4 : 32768 < l.f
          · rw [hbad (by rw [hE, if_neg (not_not_intro ⟨q1, q2⟩), if_neg q3, if_pos q4])]
            rw [decide_eq_true q1] at HI1
            rw [decide_eq_true q2] at HI2
            clear h hcell hE hbad q1 q2
            go_enter Try.func8, Try.ntmps8
            go_wp2_with fail
            refine HI1.out.mono ?_
            rintro e w1 ⟨rfl, rfl⟩
            go_wp2_with fail
            refine HI2.out.mono ?_
            rintro e w1 ⟨rfl, rfl⟩
            go_wp2_with fail
            go_ret
            exact ⟨rfl, HB.out⟩
          · exact RCheck_tail l b o c sw sh w h q1 q2 q3 q4
      · rw [hbad (by rw [hE, if_pos (fun k => q2 k.2)])]
        rw [decide_eq_true q1] at HI1
        rw [decide_eq_false q2] at HI2
        clear h hcell hE hbad q1 q2
        go_enter Try.func8, Try.ntmps8
        go_wp2_with fail
        refine HI1.out.mono ?_
        rintro e w1 ⟨rfl, rfl⟩
        go_wp2_with fail
        refine HI2.out.mono ?_
        rintro e w1 ⟨rfl, rfl⟩
        go_wp2_with fail
        go_ret
        exact ⟨rfl, HB.out⟩
    · rw [hbad (by rw [hE, if_pos (fun k => q1 k.1)])]
      rw [decide_eq_false q1] at HI1
      clear h hcell hE hbad q1
      go_enter Try.func8, Try.ntmps8
      go_wp2_with fail
      refine HI1.out.mono ?_
      rintro e w1 ⟨rfl, rfl⟩
      go_wp2_with fail
      go_ret
      exact ⟨rfl, HB.out⟩
  · have h0 : lensC xs sw sh = 12 := by rw [lensC, if_pos (by rw [h.1]; exact hn)]
    rw [lensE_bad (by rw [h0]; decide), h0]
    have i1 : ((n : Int) == 7) = false := by simp; omega
    have i2 : ((n : Int) != 7) = true := by simp; omega
    have HB := hide (Below.refl w.heap.size w)
    clear h hn h0
    go_enter Try.func8, Try.ntmps8
    go_wp2_with fail
    go_ret
    exact ⟨rfl, HB.out⟩
end Go.Proofs.Ytgcnmffbhjlolaa
