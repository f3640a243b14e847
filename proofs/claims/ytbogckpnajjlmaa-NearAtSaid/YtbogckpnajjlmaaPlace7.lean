/-
Contracts of the reference's Place, and of package img's At. No statement is proved here.
-/
import Derived.Test.YtbogckpnajjlmaaHas7
import Derived.Lib.QuietBelow
import Derived.BigQuiet
import Derived.RegionTactic
import Derived.Deep.QuietTactic
namespace Go.Proofs.Ytbogckpnajjlmaa
open Go.RowKit

/-- where a channel of a pixel stands; -1: nowhere -/
def placeZ (x y c n a b k : Int) : Int := if hasP x y c n a b k then atZ x c a b k else -1
set_option maxHeartbeats 1000000 in
theorem RPlace_any (x y c : Int) (A : Option Addr) (n cap : Nat) (a b k : Int) (w : World) : Calls Try.prog 46 #[.agg #[.int .i64 x, .int .i64 y, .int .i64 c, .slice A n cap], .int .i64 a, .int .i64 b, .int .i64 k] w (Says w (.int .i64 (placeZ x y c n a b k))) := by
  have H0 := below_alloc w (.cells #[.int .i64 x, .int .i64 y, .int .i64 c, .slice A n cap] 24)
  have B0 := Bx.at (w := w) (g := w.heap.size) [.int .i64 x, .int .i64 y, .int .i64 c, .slice A n cap] 24 rfl
  have e0 : [Value.int .i64 x, .int .i64 y, .int .i64 c, .slice A n cap].toArray = #[Value.int .i64 x, .int .i64 y, .int .i64 c, .slice A n cap] := rfl
  rw [e0] at B0
  obtain ⟨_, a0, a1, a2, a3, _, _, _, _⟩ := B0.four
  have HL0 := hide H0
  have HB0 := hide B0
  clear B0 H0
  have C1 := hide (fun w => RCheck_any x y c A n cap w)
  obtain ⟨r, hr⟩ : ∃ r, placeZ x y c n a b k = r := ⟨_, rfl⟩
  rw [hr]
  obtain ⟨f, hf⟩ : ∃ f, checkZ x y c n = f := ⟨_, rfl⟩
  have hi : hasP x y c n a b k ↔ (f = 0 ∧ 0 ≤ a ∧ a < x ∧ 0 ≤ b ∧ b < y ∧ 0 ≤ k ∧ k < c) := by rw [← hf]; exact Iff.rfl
  rw [hf] at C1
  clear hf
  by_cases hf : f = 0
  · subst hf
    by_cases h0 : 0 ≤ a
    · have p0 : ¬ a < 0 := by omega
      by_cases h1 : a < x
      · have p1 : ¬ x ≤ a := by omega
        by_cases h2 : 0 ≤ b
        · have p2 : ¬ b < 0 := by omega
          by_cases h3 : b < y
          · have p3 : ¬ y ≤ b := by omega
            by_cases h4 : 0 ≤ k
            · have p4 : ¬ k < 0 := by omega
              by_cases h5 : k < c
              · have p5 : ¬ c ≤ k := by omega
                have hP := hi.2 ⟨rfl, h0, h1, h2, h3, h4, h5⟩
                obtain rfl : atZ x c a b k = r := by rw [← hr]; exact (if_pos hP).symm
                obtain ⟨⟨p1', p2'⟩, ⟨q1, q2⟩, ⟨r1, r2⟩, n1⟩ := has_in hP
                have w1 : IntKind.i64.wrap (b * x) = b * x := IntWalk.i64_in _ (by omega)
                have w2 : IntKind.i64.wrap (b * x + a) = b * x + a := IntWalk.i64_in _ (by omega)
                have w3 : IntKind.i64.wrap ((b * x + a) * c) = (b * x + a) * c := IntWalk.i64_in _ (by omega)
                have w4 : IntKind.i64.wrap ((b * x + a) * c + k) = (b * x + a) * c + k := IntWalk.i64_in _ (by omega)
                clear hP p1' p2' q1 q2 r1 r2 n1
                clear hr hi
                go_enter Try.func46, Try.ntmps46
                go_wp2_with fail
                refine (C1.out _).mono ?_
                rintro e w1 ⟨rfl, hb⟩
                have L := hide (HL0.out.trans (hb.mono HL0.out.size))
                obtain ⟨_, g0, g1, g2, g3, _, _, _, _⟩ := (HB0.out.below hb).four
                clear hb a0 a1 a2 a3
                go_wp2_with fail
                go_ret
                exact ⟨rfl, L.out⟩
              · obtain rfl : r = -1 := by rw [← hr]; exact if_neg (fun q => h5 (by have := hi.1 q; omega))
                have f5 : c ≤ k := by omega
                clear hr hi
                go_enter Try.func46, Try.ntmps46
                go_wp2_with fail
                refine (C1.out _).mono ?_
                rintro e w1 ⟨rfl, hb⟩
                have L := hide (HL0.out.trans (hb.mono HL0.out.size))
                obtain ⟨_, g0, g1, g2, g3, _, _, _, _⟩ := (HB0.out.below hb).four
                clear hb a0 a1 a2 a3
                go_wp2_with fail
                go_ret
                exact ⟨rfl, L.out⟩
            · obtain rfl : r = -1 := by rw [← hr]; exact if_neg (fun q => h4 (by have := hi.1 q; omega))
              have f4 : k < 0 := by omega
              clear hr hi
              go_enter Try.func46, Try.ntmps46
              go_wp2_with fail
              refine (C1.out _).mono ?_
              rintro e w1 ⟨rfl, hb⟩
              have L := hide (HL0.out.trans (hb.mono HL0.out.size))
              obtain ⟨_, g0, g1, g2, g3, _, _, _, _⟩ := (HB0.out.below hb).four
              clear hb a0 a1 a2 a3
              go_wp2_with fail
              go_ret
              exact ⟨rfl, L.out⟩
          · obtain rfl : r = -1 := by rw [← hr]; exact if_neg (fun q => h3 (by have := hi.1 q; omega))
            have f3 : y ≤ b := by omega
            clear hr hi
            go_enter Try.func46, Try.ntmps46
            go_wp2_with fail
            refine (C1.out _).mono ?_
            rintro e w1 ⟨rfl, hb⟩
            have L := hide (HL0.out.trans (hb.mono HL0.out.size))
            obtain ⟨_, g0, g1, g2, g3, _, _, _, _⟩ := (HB0.out.below hb).four
            clear hb a0 a1 a2 a3
            go_wp2_with fail
            go_ret
            exact ⟨rfl, L.out⟩
        · obtain rfl : r = -1 := by rw [← hr]; exact if_neg (fun q => h2 (by have := hi.1 q; omega))
          have f2 : b < 0 := by omega
          clear hr hi
          go_enter Try.func46, Try.ntmps46
          go_wp2_with fail
          refine (C1.out _).mono ?_
          rintro e w1 ⟨rfl, hb⟩
          have L := hide (HL0.out.trans (hb.mono HL0.out.size))
          obtain ⟨_, g0, g1, g2, g3, _, _, _, _⟩ := (HB0.out.below hb).four
          clear hb a0 a1 a2 a3
          go_wp2_with fail
          go_ret
          exact ⟨rfl, L.out⟩
      · obtain rfl : r = -1 := by rw [← hr]; exact if_neg (fun q => h1 (by have := hi.1 q; omega))
        have f1 : x ≤ a := by omega
        clear hr hi
        go_enter Try.func46, Try.ntmps46
        go_wp2_with fail
        refine (C1.out _).mono ?_
        rintro e w1 ⟨rfl, hb⟩
        have L := hide (HL0.out.trans (hb.mono HL0.out.size))
        obtain ⟨_, g0, g1, g2, g3, _, _, _, _⟩ := (HB0.out.below hb).four
        clear hb a0 a1 a2 a3
        go_wp2_with fail
        go_ret
        exact ⟨rfl, L.out⟩
    · obtain rfl : r = -1 := by rw [← hr]; exact if_neg (fun q => h0 (by have := hi.1 q; omega))
      have f0 : a < 0 := by omega
      clear hr hi
      go_enter Try.func46, Try.ntmps46
      go_wp2_with fail
      refine (C1.out _).mono ?_
      rintro e w1 ⟨rfl, hb⟩
      have L := hide (HL0.out.trans (hb.mono HL0.out.size))
      obtain ⟨_, g0, g1, g2, g3, _, _, _, _⟩ := (HB0.out.below hb).four
      clear hb a0 a1 a2 a3
      go_wp2_with fail
      go_ret
      exact ⟨rfl, L.out⟩
  · obtain rfl : r = -1 := by rw [← hr]; exact if_neg (fun q => hf (hi.1 q).1)
    have k1 : (f != 0) = true := by simpa using hf
    clear hr hi
    go_enter Try.func46, Try.ntmps46
    go_wp2_with fail
    refine (C1.out _).mono ?_
    rintro e w1 ⟨rfl, hb⟩
    have L := hide (HL0.out.trans (hb.mono HL0.out.size))
    obtain ⟨_, g0, g1, g2, g3, _, _, _, _⟩ := (HB0.out.below hb).four
    clear hb a0 a1 a2 a3
    go_wp2_with fail
    go_ret
    exact ⟨rfl, L.out⟩

end Go.Proofs.Ytbogckpnajjlmaa
