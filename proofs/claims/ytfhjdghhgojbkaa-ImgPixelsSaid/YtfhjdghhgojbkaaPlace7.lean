/-
Contracts of the reference's Place, and of package img's At. No statement is proved here.
-/
import Derived.Test.YtfhjdghhgojbkaaHas7
import Derived.Lib.QuietBelow
import Derived.BigQuiet
import Derived.RegionTactic
import Derived.Deep.QuietTactic
namespace Go.Proofs.Ytfhjdghhgojbkaa
open Go.RowKit

/-- where a channel of a pixel stands; -1: nowhere -/
def placeZ (x y c n a b k : Int) : Int := if hasP x y c n a b k then atZ x c a b k else -1
set_option maxHeartbeats 1000000 in
theorem RPlace_any (x y c : Int) (A : Option Addr) (n cap : Nat) (a b k : Int) (w : World) : Calls Try.prog 39 #[.agg #[.int .i64 x, .int .i64 y, .int .i64 c, .slice A n cap], .int .i64 a, .int .i64 b, .int .i64 k] w (Says w (.int .i64 (placeZ x y c n a b k))) := by
  have H0 := below_alloc w (.cells #[.int .i64 x, .int .i64 y, .int .i64 c, .slice A n cap] 40)
  have B0 := Bx.at (w := w) (g := w.heap.size) [.int .i64 x, .int .i64 y, .int .i64 c, .slice A n cap] 40 rfl
  have e0 : [Value.int .i64 x, .int .i64 y, .int .i64 c, .slice A n cap].toArray = #[Value.int .i64 x, .int .i64 y, .int .i64 c, .slice A n cap] := rfl
  rw [e0] at B0
  obtain ⟨_, a0, a1, a2, a3, _, _, _, _⟩ := B0.four
  have HL0 := hide H0
  have HB0 := hide B0
  clear B0 H0
  have C1 := hide (fun w => RCheck_any x y c A n cap w)
  obtain ⟨r, hr⟩ : ∃ r, placeZ x y c n a b k = r := ⟨_, rfl⟩
  rw [hr]
  obtain ⟨f, hf⟩ : ∃ f, checkZ x y c n = f := ⟨_, rfl⟩
  have hi : hasP x y c n a b k ↔ (f = 0 ∧ 0 ≤ a ∧ a < x ∧ 0 ≤ b ∧ b < y ∧ 0 ≤ k ∧ k < c) := by rw [← hf]; exact Iff.rfl
  rw [hf] at C1
  clear hf
  by_cases hf : f = 0
  · subst hf
    by_cases h0 : 0 ≤ a
    · have p0 : ¬ a < 0 := by omega
      by_cases h1 : a < x
      · have p1 : ¬ x ≤ a := by omega
        by_cases h2 : 0 ≤ b
        · have p2 : ¬ b < 0 := by omega
          by_cases h3 : b < y
          · have p3 : ¬ y ≤ b := by omega
            by_cases h4 : 0 ≤ k
            · have p4 : ¬ k < 0 := by omega
              by_cases h5 : k < c
              · have p5 : ¬ c ≤ k := by omega
                have hP := hi.2 ⟨rfl, h0, h1, h2, h3, h4, h5⟩
                obtain rfl : atZ x c a b k = r := by rw [← hr]; exact (if_pos hP).symm
                obtain ⟨⟨p1', p2'⟩, ⟨q1, q2⟩, ⟨r1, r2⟩, n1⟩ := has_in hP
                have w1 : IntKind.i64.wrap (b * x) = b * x := IntWalk.i64_in _ (by omega)
                have w2 : IntKind.i64.wrap (b * x + a) = b * x + a := IntWalk.i64_in _ (by omega)
                have w3 : IntKind.i64.wrap ((b * x + a) * c) = (b * x + a) * c := IntWalk.i64_in _ (by omega)
                have w4 : IntKind.i64.wrap ((b * x + a) * c + k) = (b * x + a) * c + k := IntWalk.i64_in _ (by omega)
                clear hP p1' p2' q1 q2 r1 r2 n1
                clear hr hi
                go_enter Try.func39, Try.ntmps39
                go_wp2_with fail
                refine (C1.out _).mono ?_
                rintro e w1 ⟨rfl, hb⟩
                have L := hide (HL0.out.trans (hb.mono HL0.out.size))
                obtain ⟨_, g0, g1, g2, g3, _, _, _, _⟩ := (HB0.out.below hb).four
                clear hb a0 a1 a2 a3
                go_wp2_with fail
                go_ret
                exact ⟨rfl, L.out⟩
              · obtain rfl : r = -1 := by rw [← hr]; exact if_neg (fun q => h5 (by have := hi.1 q; omega))
                have f5 : c ≤ k := by omega
                clear hr hi
                go_enter Try.func39, Try.ntmps39
                go_wp2_with fail
                refine (C1.out _).mono ?_
                rintro e w1 ⟨rfl, hb⟩
                have L := hide (HL0.out.trans (hb.mono HL0.out.size))
                obtain ⟨_, g0, g1, g2, g3, _, _, _, _⟩ := (HB0.out.below hb).four
                clear hb a0 a1 a2 a3
                go_wp2_with fail
                go_ret
                exact ⟨rfl, L.out⟩
            · obtain rfl : r = -1 := by rw [← hr]; exact if_neg (fun q => h4 (by have := hi.1 q; omega))
              have f4 : k < 0 := by omega
              clear hr hi
              go_enter Try.func39, Try.ntmps39
              go_wp2_with fail
              refine (C1.out _).mono ?_
              rintro e w1 ⟨rfl, hb⟩
              have L := hide (HL0.out.trans (hb.mono HL0.out.size))
              obtain ⟨_, g0, g1, g2, g3, _, _, _, _⟩ := (HB0.out.below hb).four
              clear hb a0 a1 a2 a3
              go_wp2_with fail
              go_ret
              exact ⟨rfl, L.out⟩
          · obtain rfl : r = -1 := by rw [← hr]; exact if_neg (fun q => h3 (by have := hi.1 q; omega))
            have f3 : y ≤ b := by omega
            clear hr hi
            go_enter Try.func39, Try.ntmps39
            go_wp2_with fail
            refine (C1.out _).mono ?_
            rintro e w1 ⟨rfl, hb⟩
            have L := hide (HL0.out.trans (hb.mono HL0.out.size))
            obtain ⟨_, g0, g1, g2, g3, _, _, _, _⟩ := (HB0.out.below hb).four
            clear hb a0 a1 a2 a3
            go_wp2_with fail
            go_ret
            exact ⟨rfl, L.out⟩
        · obtain rfl : r = -1 := by rw [← hr]; exact if_neg (fun q => h2 (by have := hi.1 q; omega))
          have f2 : b < 0 := by omega
          clear hr hi
          go_enter Try.func39, Try.ntmps39
          go_wp2_with fail
          refine (C1.out _).mono ?_
          rintro e w1 ⟨rfl, hb⟩
          have L := hide (HL0.out.trans (hb.mono HL0.out.size))
          obtain ⟨_, g0, g1, g2, g3, _, _, _, _⟩ := (HB0.out.below hb).four
          clear hb a0 a1 a2 a3
          go_wp2_with fail
          go_ret
          exact ⟨rfl, L.out⟩
      · obtain rfl : r = -1 := by rw [← hr]; exact if_neg (fun q => h1 (by have := hi.1 q; omega))
        have f1 : x ≤ a := by omega
        clear hr hi
        go_enter Try.func39, Try.ntmps39
        go_wp2_with fail
        refine (C1.out _).mono ?_
        rintro e w1 ⟨rfl, hb⟩
        have L := hide (HL0.out.trans (hb.mono HL0.out.size))
        obtain ⟨_, g0, g1, g2, g3, _, _, _, _⟩ := (HB0.out.below hb).four
        clear hb a0 a1 a2 a3
        go_wp2_with fail
        go_ret
        exact ⟨rfl, L.out⟩
    · obtain rfl : r = -1 := by rw [← hr]; exact if_neg (fun q => h0 (by have := hi.1 q; omega))
      have f0 : a < 0 := by omega
      clear hr hi
      go_enter Try.func39, Try.ntmps39
      go_wp2_with fail
      refine (C1.out _).mono ?_
      rintro e w1 ⟨rfl, hb⟩
      have L := hide (HL0.out.trans (hb.mono HL0.out.size))
      obtain ⟨_, g0, g1, g2, g3, _, _, _, _⟩ := (HB0.out.below hb).four
      clear hb a0 a1 a2 a3
      go_wp2_with fail
      go_ret
      exact ⟨rfl, L.out⟩
  · obtain rfl : r = -1 := by rw [← hr]; exact if_neg (fun q => hf (hi.1 q).1)
    have k1 : (f != 0) = true := by simpa using hf
    clear hr hi
    go_enter Try.func39, Try.ntmps39
    go_wp2_with fail
    refine (C1.out _).mono ?_
    rintro e w1 ⟨rfl, hb⟩
    have L := hide (HL0.out.trans (hb.mono HL0.out.size))
    obtain ⟨_, g0, g1, g2, g3, _, _, _, _⟩ := (HB0.out.below hb).four
    clear hb a0 a1 a2 a3
    go_wp2_with fail
    go_ret
    exact ⟨rfl, L.out⟩

set_option maxHeartbeats 2000000 in
theorem At_any (x y c : Int) (A : Option Addr) (n cap : Nat) (xs : List Int) (a b k : Int) (w : World) (h : BY w A n cap xs) : Calls Try.prog 40 #[.agg #[.int .i64 x, .int .i64 y, .int .i64 c, .slice A n cap], .int .i64 a, .int .i64 b, .int .i64 k] w (Says w (.tuple #[.int .u8 (if hasP x y c n a b k then xs.getD (atZ x c a b k).toNat 0 else 0), .bool (decide (hasP x y c n a b k))])) := by
  have H0 := below_alloc w (.cells #[.int .i64 x, .int .i64 y, .int .i64 c, .slice A n cap] 40)
  have B0 := Bx.at (w := w) (g := w.heap.size) [.int .i64 x, .int .i64 y, .int .i64 c, .slice A n cap] 40 rfl
  have e0 : [Value.int .i64 x, .int .i64 y, .int .i64 c, .slice A n cap].toArray = #[Value.int .i64 x, .int .i64 y, .int .i64 c, .slice A n cap] := rfl
  rw [e0] at B0
  obtain ⟨_, a0, a1, a2, a3, _, _, _, _⟩ := B0.four
  have HL0 := hide H0
  have HB0 := hide B0
  clear B0 H0
  have C1 := hide (fun w => has_any x y c A n cap a b k w)
  by_cases hP : hasP x y c n a b k
  · rw [if_pos hP]
    rw [decide_eq_true hP] at C1 ⊢
    have P1 := hide (fun w => place_any x y c A n cap a b k w hP)
    obtain ⟨_, _, ⟨r1, r2⟩, n1⟩ := has_in hP
    have hk := hP.2.2.2.2.2
    unfold atZ
    obtain ⟨p, hp⟩ : ∃ p, (b * x + a) * c = p := ⟨_, rfl⟩
    rw [hp] at P1 r1 r2 ⊢
    clear hp
    have w4 : IntKind.i64.wrap (p + k) = p + k := IntWalk.i64_in _ (by omega)
    have i0 : 0 ≤ p + k := by omega
    have i1 : p + k < (n : Int) := by omega
    obtain ⟨bb, o, rfl, hlt, hc⟩ := h.2.2.2.2 (by omega)
    have hcell := hc (p + k).toNat (by omega)
    generalize xs.getD (p + k).toNat 0 = v at hcell ⊢
    clear hP hk r1 r2 n1 h hc
    go_enter Try.func40, Try.ntmps40
    go_wp2_with fail
    refine (C1.out _).mono ?_
    rintro e w1 ⟨rfl, hb⟩
    have L := hide (HL0.out.trans (hb.mono HL0.out.size))
    obtain ⟨_, g0, g1, g2, g3, _, _, _, _⟩ := (HB0.out.below hb).four
    have hcell1 := (L.out.cell (p := ⟨bb, o + (p + k).toNat, none⟩) hlt).trans hcell
    replace g0 := cell_regrown g0
    replace g1 := cell_regrown g1
    replace g2 := cell_regrown g2
    replace g3 := cell_regrown g3
    replace hcell1 := cell_regrown hcell1
    clear hb a0 a1 a2 a3 hcell
    go_wp2_with fail
    refine wp_region_quiet_below (by kernel_rfl) (by kernel_rfl) ?_
    repeat (go_big_quiet_step ((go_at_call 57; exact Calls.regrown_of (P1.out _))))
    refine wpQuiet_nil ?_
    rintro wz ⟨pz, hz⟩
    have L2 := hide (show Below w.heap.size w wz from hz ▸ L.out.trans ((below_regrown _ _ _).mono L.out.size))
    clear hz
    go_wp2_with fail
    refine bodyPost_ret (v := .tuple #[.int .u8 v, .bool true]) (by simp [results, Try.results40, go_sem]) rfl ?_
    exact ⟨rfl, L2.out⟩
  · rw [if_neg hP]
    rw [decide_eq_false hP] at C1 ⊢
    clear hP h
    go_enter Try.func40, Try.ntmps40
    go_wp2_with fail
    refine (C1.out _).mono ?_
    rintro e w1 ⟨rfl, hb⟩
    have L := hide (HL0.out.trans (hb.mono HL0.out.size))
    clear hb a0 a1 a2 a3
    go_wp2_with fail
    refine bodyPost_ret (v := .tuple #[.int .u8 0, .bool false]) (by simp [results, Try.results40, go_sem]) rfl ?_
    exact ⟨rfl, L.out⟩

end Go.Proofs.Ytfhjdghhgojbkaa
