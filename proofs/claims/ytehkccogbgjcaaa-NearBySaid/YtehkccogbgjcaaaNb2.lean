/-
NearBy's walk. No statement is proved here.
-/
import Derived.Test.YtehkccogbgjcaaaNb1
import Derived.BigQuiet
import Derived.Deep.QuietTactic
namespace Go.Proofs.Ytehkccogbgjcaaa
open Go.RowKit

def NbC (w : World) (gp gx : Nat) (u v p q : Int) (ls : List Int) (w' : World) : Prop := Bx w' w.heap.size [.int .i64 u, .int .i64 v] ∧ Bx w' gx [.int .i64 p, .int .i64 q] ∧ RowAt w' gp (bytesV ls) ∧ Below w.heap.size w w'
theorem NbC.drewN {w w1 : World} {gp gx : Nat} {u v p q : Int} {ls : List Int} (h : NbC w gp gx u v p q ls w1) (m : Nat) : NbC w gp gx u v p q ls (w1.drewN m) := ⟨h.1.drewN m, h.2.1.drewN m, h.2.2.1, bdrewN h.2.2.2 m⟩
theorem row_cell {w : World} {g i : Nat} {ls : List Int} (h : RowAt w g (bytesV ls)) (hi : i < ls.length) : w.cell? ⟨g, i, none⟩ = some (.int .u8 (ls.getD i 0)) := by
  have hv : (bytesV ls)[i]? = some (.int .u8 (ls.getD i 0)) := by simp [bytesV, List.getD_eq_getElem?_getD, List.getElem?_eq_getElem hi]
  exact (h.bx.2 i _ hv).1
set_option maxRecDepth 100000 in
set_option maxHeartbeats 8000000 in
theorem NearBy_walk (c u v : Int) (A : Option Addr) (n cap : Nat) (xs : List Int) (w : World) (hB : BY w A n cap xs) :
    Calls Try.prog 5 #[.int .i64 c, .agg #[.int .i64 u, .int .i64 v], .slice A n cap] w (Says w (.bool true)) := by
  have HL := hide (below_alloc2 w (.cells #[.int .i64 u, .int .i64 v] 34) (.cells #[.slice A n cap, .slice none 0 0] 48))
  have HL1 := hide (below_alloc w (.cells #[.int .i64 u, .int .i64 v] 34))
  have X4 := hide ((Bx.new w [.int .i64 u, .int .i64 v] 34).alloc (.cells #[.slice A n cap, .slice none 0 0] 48))
  have X7 := hide (Bx.at (w := w.alloc (.cells #[.int .i64 u, .int .i64 v] 34)) (g := w.heap.size + 1) [.slice A n cap, .slice none 0 0] 48 (by simp))
  have HA := hide Nalive_any
  have HF := hide (FRight_any u v)
  have HNil := hide (fun w => NBy_nil c u v w)
  have HV := hide (fun w' (hb : Below w.heap.size w w') => hB.below hb)
  have hmf : ∀ (fn : Fn) (first cap : Array Value) (w : World), (Instr.makeFunc fn first cap).run Try.prog w = .ok (.func fn first cap) w := fun _ _ _ _ => rfl
  by_cases h1 : 50 < c
  · clear hB
    go_enter Try.func5, Try.ntmps5
    go_wp2_with fail
    go_ret
    exact ⟨rfl, HL1.out⟩
  · by_cases h2 : 50 < (n : Int)
    · clear hB
      go_enter Try.func5, Try.ntmps5
      go_wp2_with fail
      go_ret
      exact ⟨rfl, HL1.out⟩
    · by_cases h3 : 1 ≤ c ∧ RightN u v
      · obtain ⟨C, hC⟩ : ∃ C : Nat, c = C := ⟨c.toNat, by omega⟩
        subst hC
        have hG := NBy_get (w.heap.size + 1) A n cap xs C u v ((w.alloc (.cells #[.int .i64 u, .int .i64 v] 34)).alloc (.cells #[.slice A n cap, .slice none 0 0] 48)) X7.out (hB.below HL.out) (fun q b o e => by
          obtain ⟨b', o', e', hlt, _⟩ := hB.2.2.2.2 q
          rw [e] at e'
          injection e' with e'
          injection e' with e1
          omega) (by omega) h3.2
        have HG := hide hG
        have hn1 : InZ u 70368744177664 := h3.2.1
        have hn2 : InZ v 70368744177664 := h3.2.2
        have HQ1 := hide (fun w n => Calls.quiet_of_same (w := w) (n := n) ((RNearest_any u _ hn1).mono fun _ _ h => ⟨h.1, h.2.symm⟩))
        have HQ2 := hide (fun w n => Calls.quiet_of_same (w := w) (n := n) ((RNearest_any v _ hn2).mono fun _ _ h => ⟨h.1, h.2.symm⟩))
        rw [decide_eq_true h3.2] at HF
        have HLs := hide (fun i (hi : i < C) => pxL_get xs C i hi)
        have HLn := hide (pxL_length xs C)
        have hxl := hB.1
        generalize pxL xs C = ls at *
        generalize nearC u = p at *
        generalize nearC v = q at *
        have c1 : ¬ (C : Int) < 1 := by omega
        clear hG h3 hn1 hn2 hB
        go_enter Try.func5, Try.ntmps5
        go_wp2_with fail
        refine HG.out.mono ?_
        rintro e w3 ⟨gp, gx, cx, rfl, hgp, hgx, hrow, hba, hbx, hgr⟩
        simp only [World.size_alloc] at hgp hgx
        have K0 := hide (show NbC w gp gx u v p q ls w3 from ⟨X4.out.grown hgr (fun k => by injection k with k; omega), hbx, hrow, HL.out.grown hgr HL.out.size (fun k hk => by injection hk with hk; omega)⟩)
        obtain ⟨_, a0, a1, _, _⟩ := hba.two
        obtain ⟨_, b0, b1, _, _⟩ := K0.out.1.two
        clear hrow hba hbx hgr hmf
        go_wp2_with fail
        refine (HNil.out _).mono ?_
        rintro e w4 ⟨rfl, rfl⟩
        go_wp2_with fail
        refine (HF.out _).mono ?_
        rintro e w4 ⟨rfl, rfl⟩
        go_wp2_with fail
        go_loopw [11] (fun i wr => (i = .int .i64 0 ∨ i = .int .i64 2) ∧ NbC w gp gx u v p q ls wr) (fun i _ => 2 - (intOf i).toNat)
        case atStart => exact ⟨Or.inl rfl, K0.out⟩
        case round =>
          clear K0 a0 a1 b0 b1
          obtain ⟨hi, hK⟩ := hrel
          have KK := hide hK
          clear hK
          obtain ⟨_, b0, b1, _, _⟩ := KK.out.1.two
          obtain ⟨_, d0, d1, _, _⟩ := KK.out.2.1.two
          rcases hi with rfl | rfl
          · go_wp2_with fail
            refine wp_region_quiet_lit (by kernel_rfl) (by kernel_rfl) ?_
            iterate 19 go_big_quiet_step ((go_at_call 29; first | exact HQ1.out _ _ | exact HQ2.out _ _))
            refine wpQuiet_nil ?_
            intro _ hw'
            obtain ⟨nq, hw''⟩ := hw'
            subst hw''
            have KJ := hide (KK.out.drewN nq)
            go_wp2_with fail
            go_roundw
            case rel => exact ⟨Or.inr rfl, KJ.out⟩
            case measure => simp [intOf]
          · clear d0 d1
            have K2 := hide KK.out
            clear KK
            go_wp2_with fail
            go_loopw [12] (fun i wr => ∃ k : Nat, k ≤ C ∧ i = .int .i64 k ∧ NbC w gp gx u v p q ls wr) (fun i _ => C - (intOf i).toNat)
            case atStart => exact ⟨0, Nat.zero_le _, rfl, K2.out⟩
            case round =>
              clear K2 b0 b1
              obtain ⟨k, hk, rfl, hK⟩ := hrel
              have KK := hide hK
              clear hK
              by_cases hlt : k < C
              · have hv := row_cell KK.out.2.2.1 (show k < ls.length by rw [HLn.out]; exact hlt)
                rw [HLs.out k hlt] at hv
                have i0 : (0 : Int) ≤ (k : Int) := by omega
                have i1 : (k : Int) < (C : Int) := by omega
                by_cases hkn : k < n
                · rw [if_pos (by omega)] at hv
                  obtain ⟨bb, o, rfl, _, hcs⟩ := (HV.out _ KK.out.2.2.2).2.2.2.2 (by omega)
                  have hs := hcs k hkn
                  generalize xs.getD k 0 = z at hv hs
                  have i2 : (k : Int) < (n : Int) := by omega
                  clear hcs
                  go_wp2_with fail
                  go_roundw
                  case rel => exact ⟨k + 1, by omega, by go_num, KK.out⟩
                  case measure => simp [intOf]; omega
                · rw [if_neg (by omega)] at hv
                  have i2 : ¬ (k : Int) < (n : Int) := by omega
                  go_wp2_with fail
                  go_roundw
                  case rel => exact ⟨k + 1, by omega, by go_num, KK.out⟩
                  case measure => simp [intOf]; omega
              · obtain rfl : k = C := by omega
                go_wp2_with fail
                refine (HA.out _).mono ?_
                rintro e w9 ⟨rfl, rfl⟩
                go_wp2_with fail
                go_ret
                exact ⟨rfl, KK.out.2.2.2⟩
      · have HBy2 := hide (NBy_no (.pointer (some ⟨w.heap.size + 1, 0, none⟩)) c u v ((w.alloc (.cells #[.int .i64 u, .int .i64 v] 34)).alloc (.cells #[.slice A n cap, .slice none 0 0] 48)) h3)
        have K0 := hide X4.out
        obtain ⟨_, b0, b1, _, _⟩ := K0.out.two
        obtain ⟨_, a0, a1, _, _⟩ := X7.out.two
        by_cases h4 : c < 1
        · clear h3 hB
          go_enter Try.func5, Try.ntmps5
          go_wp2_with fail
          refine HBy2.out.mono ?_
          rintro e w3 ⟨rfl, rfl⟩
          go_wp2_with fail
          refine (HNil.out _).mono ?_
          rintro e w4 ⟨rfl, rfl⟩
          go_wp2_with fail
          refine (HA.out _).mono ?_
          rintro e w9 ⟨rfl, rfl⟩
          go_wp2_with fail
          go_ret
          exact ⟨rfl, HL.out⟩
        · rw [decide_eq_false fun t => h3 ⟨by omega, t⟩] at HF
          clear h3 hB
          go_enter Try.func5, Try.ntmps5
          go_wp2_with fail
          refine HBy2.out.mono ?_
          rintro e w3 ⟨rfl, rfl⟩
          go_wp2_with fail
          refine (HNil.out _).mono ?_
          rintro e w4 ⟨rfl, rfl⟩
          go_wp2_with fail
          refine (HF.out _).mono ?_
          rintro e w5 ⟨rfl, rfl⟩
          go_wp2_with fail
          refine (HA.out _).mono ?_
          rintro e w9 ⟨rfl, rfl⟩
          go_wp2_with fail
          go_ret
          exact ⟨rfl, HL.out⟩
end Go.Proofs.Ytehkccogbgjcaaa
