/-
Contract of the reference's look at a lens. No statement is proved here.
-/
import Derived.Test.YtgcnmffbhjlolaaLen7
namespace Go.Proofs.Ytgcnmffbhjlolaa
open Go.RowKit

/-- seen to both ends, one way -/
def endsIn (sd m f : Int) : Prop := InZ (asideZ (-1) 2 m f) 262144 ∧ InZ (asideZ (2 * sd - 1) 2 m f) 262144
theorem seesAll_ends (l : Ln) (sw sh : Int) : l.seesAll sw sh ↔ endsIn sw l.cx l.f ∧ endsIn sh l.cy l.f :=
  ⟨fun ⟨⟨a, b⟩, c, d⟩ => ⟨⟨a, c⟩, b, d⟩, fun ⟨⟨a, c⟩, b, d⟩ => ⟨⟨a, b⟩, c, d⟩⟩
theorem quietV {f : FuncId} {args : Array Value} {v : Value} (h : ∀ w, Calls Try.prog f args w fun e w' => e = .returned v ∧ w = w') : ∀ (w : World) (n : Nat), Calls Try.prog f args (w.drewN n) fun e w'' => e = .returned v ∧ ∃ m, w'' = w.drewN m :=
  fun w n => (h (w.drewN n)).mono fun _ _ k => ⟨k.1, n, k.2.symm⟩

set_option maxHeartbeats 4000000 in
theorem RCheck_tail (l : Ln) (b o c : Nat) (sw sh : Int) (w : World) (h : IY w (some ⟨b, o, none⟩) 7 c l.list) (q1 : InZ l.cx 2147483648) (q2 : InZ l.cy 2147483648) (q3 : ¬ l.f < 1) (q4 : ¬ 32768 < l.f) :
    Calls Try.prog 8 #[.slice (some ⟨b, o, none⟩) 7 c, .int .i64 sw, .int .i64 sh] w (Says w (.int .i64 (lensE l.list sw sh))) := by
  have hf : 1 ≤ l.f ∧ l.f ≤ 32768 := by omega
  have HI1 := hide (In_any l.cx 2147483648 w (by decide))
  have HI2 := hide (In_any l.cy 2147483648 w (by decide))
  rw [decide_eq_true q1] at HI1
  rw [decide_eq_true q2] at HI2
  have HI := hide (fun x w => In_any x 65536 w (by decide))
  obtain ⟨b', o', e', hlt, hcell⟩ := h.2.2.2.2 (by omega)
  cases e'
  have c0 : w.cell? ⟨b, o, none⟩ = some (.int .i64 l.cx) := hcell 0 (by omega)
  have c1 : w.cell? ⟨b, o + 1, none⟩ = some (.int .i64 l.cy) := hcell 1 (by omega)
  have c2 : w.cell? ⟨b, o + 2, none⟩ = some (.int .i64 l.f) := hcell 2 (by omega)
  have HC := hide hcell
  have HY := hide h
  have hE := lensC_seven l sw sh
  rw [if_neg (not_not_intro ⟨q1, q2⟩), if_neg q3, if_neg q4] at hE
  have HE := Lib.hid hE
  have HQ1 := hide q1
  have HQ2 := hide q2
  have HF := hide hf
  obtain ⟨ee, hee⟩ : ∃ ee, lensE l.list sw sh = ee := ⟨_, rfl⟩
  have HEE := Lib.hid hee
  rw [hee]
  clear hcell h hE q1 q2 hf hee
  go_enter Try.func8, Try.ntmps8
  go_wp2_with fail
  refine HI1.out.mono ?_
  rintro e w1 ⟨rfl, rfl⟩
  go_wp2_with fail
  refine HI2.out.mono ?_
  rintro e w1 ⟨rfl, rfl⟩
  go_wp2_with fail
  go_loopw [7] (fun i wr => ∃ k : Nat, 3 ≤ k ∧ k ≤ 7 ∧ i = .int .i64 k ∧ (∀ j, 3 ≤ j → j < k → InZ (l.list.getD j 0) 65536) ∧ w = wr) (fun i _ => 7 - (intOf i).toNat)
  case atStart => exact ⟨3, by omega, by omega, rfl, fun j h1 h2 => absurd h2 (by omega), rfl⟩
  case round =>
    obtain ⟨k, hk3, hk, rfl, hA, rfl⟩ := hrel
    have HA := hide hA
    clear hA
    by_cases hlt7 : k < 7
    · have ck := HC.out k hlt7
      have i0 : (0 : Int) ≤ (k : Int) := by omega
      have i1 : (k : Int) < (7 : Int) := by omega
      obtain ⟨u, hu⟩ : ∃ u, l.list.getD k 0 = u := ⟨_, rfl⟩
      have HU := Lib.hid hu
      rw [hu] at ck
      clear hu
      by_cases a1 : InZ u 65536
      · have HS : Hid (∀ j, 3 ≤ j → j < k + 1 → InZ (l.list.getD j 0) 65536) := fun j h1 h2 => by
          rcases Nat.lt_or_ge j k with q | q
          · exact HA.out j h1 q
          · obtain rfl : j = k := by omega
            rw [HU.out]; exact a1
        have HK := hide (HI.out u w)
        rw [decide_eq_true a1] at HK
        clear a1
        go_wp2_with fail
        refine HK.out.mono ?_
        rintro e w1 ⟨rfl, rfl⟩
        go_wp2_with fail
        go_roundw
        case rel => exact ⟨k + 1, by omega, by omega, by go_num, HS.out, trivial⟩
        case measure => simp [intOf]; omega
      · obtain rfl : ee = 11 := by
          have e : lensC l.list sw sh = 11 := by
            rw [HE.out, if_pos]
            rintro ⟨z3, z4, z5, z6⟩
            apply a1
            rw [← HU.out]
            rcases (show k = 3 ∨ k = 4 ∨ k = 5 ∨ k = 6 by omega) with rfl | rfl | rfl | rfl
            · exact z3
            · exact z4
            · exact z5
            · exact z6
          rw [← HEE.out, lensE_bad (by rw [e]; decide), e]
        have HK := hide (HI.out u w)
        rw [decide_eq_false a1] at HK
        have HB := hide (Below.refl w.heap.size w)
        clear a1
        go_wp2_with fail
        refine HK.out.mono ?_
        rintro e w1 ⟨rfl, rfl⟩
        go_wp2_with fail
        go_ret
        exact ⟨rfl, HB.out⟩
    · obtain rfl : k = 7 := by omega
      have hE := HE.out
      rw [if_neg (not_not_intro ⟨HA.out 3 (by omega) (by omega), HA.out 4 (by omega) (by omega), HA.out 5 (by omega) (by omega), HA.out 6 (by omega) (by omega)⟩)] at hE
      have HB := hide (Below.refl w.heap.size w)
      clear HE HA
      by_cases p5 : sw < 1
      · rw [if_pos p5] at hE
        obtain rfl : ee = 30 := by rw [← HEE.out, lensE_bad (by rw [hE]; decide), hE]
        clear hE
        go_wp2_with fail
        go_ret
        exact ⟨rfl, HB.out⟩
      · rw [if_neg p5] at hE
        by_cases p6 : 32768 < sw
        · rw [if_pos p6] at hE
          obtain rfl : ee = 30 := by rw [← HEE.out, lensE_bad (by rw [hE]; decide), hE]
          clear hE
          go_wp2_with fail
          go_ret
          exact ⟨rfl, HB.out⟩
        · rw [if_neg p6] at hE
          by_cases p7 : sh < 1
          · rw [if_pos p7] at hE
            obtain rfl : ee = 30 := by rw [← HEE.out, lensE_bad (by rw [hE]; decide), hE]
            clear hE
            go_wp2_with fail
            go_ret
            exact ⟨rfl, HB.out⟩
          · rw [if_neg p7] at hE
            by_cases p8 : 32768 < sh
            · rw [if_pos p8] at hE
              obtain rfl : ee = 30 := by rw [← HEE.out, lensE_bad (by rw [hE]; decide), hE]
              clear hE
              go_wp2_with fail
              go_ret
              exact ⟨rfl, HB.out⟩
            · rw [if_neg p8] at hE
              have hL := lensE_seven hE
              rw [HEE.out] at hL
              have HL := Lib.hid hL
              clear hE hL HC
              go_wp2_with fail
              go_loopw [8] (fun i wr => ∃ k : Nat, k ≤ 2 ∧ i = .int .i64 k ∧ (0 < k → endsIn sw l.cx l.f) ∧ (1 < k → endsIn sh l.cy l.f) ∧ Below w.heap.size w wr) (fun i _ => 2 - (intOf i).toNat)
              case atStart => exact ⟨0, by omega, rfl, fun h => absurd h (by omega), fun h => absurd h (by omega), HB.out⟩
              case round =>
                obtain ⟨k, hk, rfl, hA1, hA2, hB⟩ := hrel
                have HA1 := hide hA1
                have HA2 := hide hA2
                have HB2 := hide (hB.trans ((below_alloc wr (.cells #[.int .i64 sw, .int .i64 sh] 3)).mono hB.size))
                have HY2 := (HY.out.below hB).below (below_alloc wr (.cells #[.int .i64 sw, .int .i64 sh] 3))
                obtain ⟨b', o', e', _, hcell⟩ := HY2.2.2.2.2 (by omega)
                cases e'
                have d0 : (wr.alloc (.cells #[.int .i64 sw, .int .i64 sh] 3)).cell? ⟨b, o, none⟩ = some (.int .i64 l.cx) := hcell 0 (by omega)
                have d1 : (wr.alloc (.cells #[.int .i64 sw, .int .i64 sh] 3)).cell? ⟨b, o + 1, none⟩ = some (.int .i64 l.cy) := hcell 1 (by omega)
                have d2 : (wr.alloc (.cells #[.int .i64 sw, .int .i64 sh] 3)).cell? ⟨b, o + 2, none⟩ = some (.int .i64 l.f) := hcell 2 (by omega)
                have HZ := hide hB
                clear hA1 hA2 hB HY2 hcell c0 c1 c2 HI1 HI2 HI
                rcases (show k = 0 ∨ k = 1 ∨ k = 2 by omega) with rfl | rfl | rfl
                · have HX1 := hide (quietV (fun w => Axis_any (-1) 2 l.cx l.f w HF.out ⟨by decide, by decide⟩ (by decide) HQ1.out))
                  have HX2 := hide (quietV (fun w => Axis_any (2 * sw - 1) 2 l.cx l.f w HF.out ⟨by decide, by decide⟩ (by unfold InZ; omega) HQ1.out))
                  obtain ⟨s2, hs2⟩ : ∃ s, IntKind.i64.wrap (2 * sw) = s := ⟨_, rfl⟩
                  obtain ⟨s3, hs3⟩ : ∃ s, IntKind.i64.wrap (s2 - 1) = s := ⟨_, rfl⟩
                  have hs4 : s3 = 2 * sw - 1 := by rw [← hs3, ← hs2, IntWalk.i64_in (2 * sw) (by omega), IntWalk.i64_in _ (by omega)]
                  have hends : endsIn sw l.cx l.f ↔ InZ (asideZ (-1) 2 l.cx l.f) 262144 ∧ InZ (asideZ s3 2 l.cx l.f) 262144 := by rw [hs4]; rfl
                  rw [← hs4] at HX2
                  clear hs4
                  obtain ⟨x1, hx1⟩ : ∃ x, asideZ (-1) 2 l.cx l.f = x := ⟨_, rfl⟩
                  obtain ⟨x2, hx2⟩ : ∃ x, asideZ s3 2 l.cx l.f = x := ⟨_, rfl⟩
                  rw [hx1] at HX1 hends
                  rw [hx2] at HX2 hends
                  have HN1 := hide (quietV (fun w => In_any x1 262144 w (by decide)))
                  have HN2 := hide (quietV (fun w => In_any x2 262144 w (by decide)))
                  have HE1 := Lib.hid hends
                  clear hx1 hx2 hends
                  have hno : ¬ endsIn sw l.cx l.f → ee = 11 := fun k => by
                    rw [HL.out]; exact if_neg (fun q => k ((seesAll_ends _ _ _).1 q).1)
                  have HNO := hide hno
                  clear hno
                  by_cases a1 : InZ x1 262144
                  · by_cases a2 : InZ x2 262144
                    · rw [decide_eq_true a1] at HN1
                      rw [decide_eq_true a2] at HN2
                      have HS := hide (HE1.out.2 ⟨a1, a2⟩)
                      clear a1 a2
                      go_wp2_with fail
                      refine wp_region_quiet_lit (by kernel_rfl) (by kernel_rfl) ?_
                      iterate 25 go_big_quiet_step ((first | (go_at_call_of 21 (Value.int .i64 s3); exact HX2.out _ _) | (go_at_call 21; exact HX1.out _ _) | (go_at_call_of 18 (Value.int .i64 x1); exact HN1.out _ _) | (go_at_call_of 18 (Value.int .i64 x2); exact HN2.out _ _)))
                      refine wpQuiet_nil ?_
                      intro _ hw'
                      obtain ⟨nq, hw''⟩ := hw'
                      subst hw''
                      have HJ := hide (bdrewN HB2.out nq)
                      generalize (wr.alloc (.cells #[.int .i64 sw, .int .i64 sh] 3)).drewN nq = wE at HJ ⊢
                      go_wp2_with fail
                      go_roundw
                      case rel => exact ⟨1, by omega, by go_num, fun _ => HS.out, fun h => absurd h (by omega), HJ.out⟩
                      case measure => simp [intOf]
                    · rw [decide_eq_true a1] at HN1
                      rw [decide_eq_false a2] at HN2
                      obtain rfl : ee = 11 := HNO.out (fun q => a2 (HE1.out.1 q).2)
                      clear a1 a2
                      go_wp2_with fail
                      refine wp_region_quiet_lit (by kernel_rfl) (by kernel_rfl) ?_
                      iterate 25 go_big_quiet_step ((first | (go_at_call_of 21 (Value.int .i64 s3); exact HX2.out _ _) | (go_at_call 21; exact HX1.out _ _) | (go_at_call_of 18 (Value.int .i64 x1); exact HN1.out _ _) | (go_at_call_of 18 (Value.int .i64 x2); exact HN2.out _ _)))
                      refine wpQuiet_nil ?_
                      intro _ hw'
                      obtain ⟨nq, hw''⟩ := hw'
                      subst hw''
                      have HJ := hide (bdrewN HB2.out nq)
                      generalize (wr.alloc (.cells #[.int .i64 sw, .int .i64 sh] 3)).drewN nq = wE at HJ ⊢
                      go_wp2_with fail
                      go_ret
                      exact ⟨rfl, HJ.out⟩
                  · rw [decide_eq_false a1] at HN1
                    obtain rfl : ee = 11 := HNO.out (fun q => a1 (HE1.out.1 q).1)
                    clear a1
                    go_wp2_with fail
                    refine wp_region_quiet_lit (by kernel_rfl) (by kernel_rfl) ?_
                    iterate 25 go_big_quiet_step ((first | (go_at_call_of 21 (Value.int .i64 s3); exact HX2.out _ _) | (go_at_call 21; exact HX1.out _ _) | (go_at_call_of 18 (Value.int .i64 x1); exact HN1.out _ _) | (go_at_call_of 18 (Value.int .i64 x2); exact HN2.out _ _)))
                    refine wpQuiet_nil ?_
                    intro _ hw'
                    obtain ⟨nq, hw''⟩ := hw'
                    subst hw''
                    have HJ := hide (bdrewN HB2.out nq)
                    generalize (wr.alloc (.cells #[.int .i64 sw, .int .i64 sh] 3)).drewN nq = wE at HJ ⊢
                    go_wp2_with fail
                    go_ret
                    exact ⟨rfl, HJ.out⟩
                · have HX1 := hide (quietV (fun w => Axis_any (-1) 2 l.cy l.f w HF.out ⟨by decide, by decide⟩ (by decide) HQ2.out))
                  have HX2 := hide (quietV (fun w => Axis_any (2 * sh - 1) 2 l.cy l.f w HF.out ⟨by decide, by decide⟩ (by unfold InZ; omega) HQ2.out))
                  obtain ⟨s2, hs2⟩ : ∃ s, IntKind.i64.wrap (2 * sh) = s := ⟨_, rfl⟩
                  obtain ⟨s3, hs3⟩ : ∃ s, IntKind.i64.wrap (s2 - 1) = s := ⟨_, rfl⟩
                  have hs4 : s3 = 2 * sh - 1 := by rw [← hs3, ← hs2, IntWalk.i64_in (2 * sh) (by omega), IntWalk.i64_in _ (by omega)]
                  have hends : endsIn sh l.cy l.f ↔ InZ (asideZ (-1) 2 l.cy l.f) 262144 ∧ InZ (asideZ s3 2 l.cy l.f) 262144 := by rw [hs4]; rfl
                  rw [← hs4] at HX2
                  clear hs4
                  obtain ⟨x1, hx1⟩ : ∃ x, asideZ (-1) 2 l.cy l.f = x := ⟨_, rfl⟩
                  obtain ⟨x2, hx2⟩ : ∃ x, asideZ s3 2 l.cy l.f = x := ⟨_, rfl⟩
                  rw [hx1] at HX1 hends
                  rw [hx2] at HX2 hends
                  have HN1 := hide (quietV (fun w => In_any x1 262144 w (by decide)))
                  have HN2 := hide (quietV (fun w => In_any x2 262144 w (by decide)))
                  have HE1 := Lib.hid hends
                  clear hx1 hx2 hends
                  have hno : ¬ endsIn sh l.cy l.f → ee = 11 := fun k => by
                    rw [HL.out]; exact if_neg (fun q => k ((seesAll_ends _ _ _).1 q).2)
                  have HNO := hide hno
                  clear hno
                  by_cases a1 : InZ x1 262144
                  · by_cases a2 : InZ x2 262144
                    · rw [decide_eq_true a1] at HN1
                      rw [decide_eq_true a2] at HN2
                      have HS := hide (HE1.out.2 ⟨a1, a2⟩)
                      clear a1 a2
                      go_wp2_with fail
                      refine wp_region_quiet_lit (by kernel_rfl) (by kernel_rfl) ?_
                      iterate 25 go_big_quiet_step ((first | (go_at_call_of 21 (Value.int .i64 s3); exact HX2.out _ _) | (go_at_call 21; exact HX1.out _ _) | (go_at_call_of 18 (Value.int .i64 x1); exact HN1.out _ _) | (go_at_call_of 18 (Value.int .i64 x2); exact HN2.out _ _)))
                      refine wpQuiet_nil ?_
                      intro _ hw'
                      obtain ⟨nq, hw''⟩ := hw'
                      subst hw''
                      have HJ := hide (bdrewN HB2.out nq)
                      generalize (wr.alloc (.cells #[.int .i64 sw, .int .i64 sh] 3)).drewN nq = wE at HJ ⊢
                      go_wp2_with fail
                      go_roundw
                      case rel => exact ⟨2, by omega, by go_num, fun _ => HA1.out (by omega), fun _ => HS.out, HJ.out⟩
                      case measure => simp [intOf]
                    · rw [decide_eq_true a1] at HN1
                      rw [decide_eq_false a2] at HN2
                      obtain rfl : ee = 11 := HNO.out (fun q => a2 (HE1.out.1 q).2)
                      clear a1 a2
                      go_wp2_with fail
                      refine wp_region_quiet_lit (by kernel_rfl) (by kernel_rfl) ?_
                      iterate 25 go_big_quiet_step ((first | (go_at_call_of 21 (Value.int .i64 s3); exact HX2.out _ _) | (go_at_call 21; exact HX1.out _ _) | (go_at_call_of 18 (Value.int .i64 x1); exact HN1.out _ _) | (go_at_call_of 18 (Value.int .i64 x2); exact HN2.out _ _)))
                      refine wpQuiet_nil ?_
                      intro _ hw'
                      obtain ⟨nq, hw''⟩ := hw'
                      subst hw''
                      have HJ := hide (bdrewN HB2.out nq)
                      generalize (wr.alloc (.cells #[.int .i64 sw, .int .i64 sh] 3)).drewN nq = wE at HJ ⊢
                      go_wp2_with fail
                      go_ret
                      exact ⟨rfl, HJ.out⟩
                  · rw [decide_eq_false a1] at HN1
                    obtain rfl : ee = 11 := HNO.out (fun q => a1 (HE1.out.1 q).1)
                    clear a1
                    go_wp2_with fail
                    refine wp_region_quiet_lit (by kernel_rfl) (by kernel_rfl) ?_
                    iterate 25 go_big_quiet_step ((first | (go_at_call_of 21 (Value.int .i64 s3); exact HX2.out _ _) | (go_at_call 21; exact HX1.out _ _) | (go_at_call_of 18 (Value.int .i64 x1); exact HN1.out _ _) | (go_at_call_of 18 (Value.int .i64 x2); exact HN2.out _ _)))
                    refine wpQuiet_nil ?_
                    intro _ hw'
                    obtain ⟨nq, hw''⟩ := hw'
                    subst hw''
                    have HJ := hide (bdrewN HB2.out nq)
                    generalize (wr.alloc (.cells #[.int .i64 sw, .int .i64 sh] 3)).drewN nq = wE at HJ ⊢
                    go_wp2_with fail
                    go_ret
                    exact ⟨rfl, HJ.out⟩
                · obtain rfl : ee = 0 := by rw [HL.out]; exact if_pos ((seesAll_ends _ _ _).2 ⟨HA1.out (by omega), HA2.out (by omega)⟩)
                  clear d0 d1 d2
                  go_wp2_with fail
                  go_ret
                  exact ⟨rfl, HZ.out⟩
end Go.Proofs.Ytgcnmffbhjlolaa
