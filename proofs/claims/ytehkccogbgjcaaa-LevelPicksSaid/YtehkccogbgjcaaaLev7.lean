/-
LevelPicks' walk. No statement is proved here.
-/
import Derived.Test.YtehkccogbgjcaaaLev3
import Derived.Test.YtehkccogbgjcaaaLev5
import Derived.Test.YtehkccogbgjcaaaLev6
namespace Go.Proofs.Ytehkccogbgjcaaa
open Go.RowKit

theorem pick_rise {d m : Int} (h : 0 < d) (h2 : d < 4611686018427387904) : ∃ q v, IntKind.i64.wrap (d.tdiv 9) = q ∧ wrap64 (d + 1) = d + 1 ∧ wrap64 (d + 1 + q) = v ∧ pickZ d m ≤ pickZ v m := by
  have h3 : d.tdiv 9 = d / 9 := Int.tdiv_eq_ediv_of_nonneg (by omega)
  refine ⟨d.tdiv 9, d + 1 + d.tdiv 9, IntWalk.i64_in _ (by omega), IntWalk.wrap64_in _ (by omega), IntWalk.wrap64_in _ (by omega), pickZ_mono (by omega) m⟩

set_option maxHeartbeats 4000000 in
theorem LevelPicks_walk (d u k : Int) (w : World) : Calls Try.prog 10 #[.int .i64 d, .int .i64 u, .int .i64 k] w (Says w (.bool true)) := by
  have HP := hide (fun d w => Pick_any d k w)
  have HR := hide (RPick_any d k w)
  have HI := hide (In_any u 70368744177664 w (by decide))
  have HA := hide alive32_any
  have HB := hide (Below.refl w.heap.size w)
  have HS := hide (show 0 < d → d < 4611686018427387904 → _ from fun a b => pick_rise (m := k) a b)
  obtain ⟨x, hx⟩ : ∃ x, pickZ d k = x := ⟨_, rfl⟩
  have HX := hide (fun w => hx ▸ Pick_any d k w)
  rw [hx] at HR HS
  clear hx
  by_cases hi : InZ u 70368744177664
  · rw [decide_eq_true hi] at HI
    have hn : near46 u := by unfold InZ at hi; unfold near46; omega
    have HT := hide (fun w => To_any u k hn w)
    have HT2 := hide (fun w => RTo_any u k hn w)
    have HF := hide (fun w => From_any u k hi w)
    have HF2 := hide (fun w => RFrom_any u k hi w)
    have HI2 := hide (fun v w => In_any v 70368744177664 w (by decide))
    have HL := hide (show ∀ v, fromZ u k = v → InZ v 70368744177664 → ∀ w, Calls Try.prog 45 #[.int .i64 v, .int .i64 k] w fun e w' => e = .returned (.int .i64 u) ∧ w = w' from fun v hv hi2 w => by
      have := To_any v k (by unfold InZ at hi2; unfold near46; omega) w
      rw [← hv, to_from] at this
      rw [← hv]
      exact this)
    obtain ⟨t, ht⟩ : ∃ t, toZ u k = t := ⟨_, rfl⟩
    obtain ⟨v, hv⟩ : ∃ v, fromZ u k = v := ⟨_, rfl⟩
    rw [ht] at HT HT2
    rw [hv] at HF HF2
    have HL := hide (HL.out v hv)
    clear hi hn ht hv
    by_cases h0 : 0 < d
    · by_cases h1 : d < 4611686018427387904
      · obtain ⟨q, v', e1, e2, e3, hle⟩ := HS.out h0 h1
        have hgt : ¬ pickZ v' k < x := by omega
        obtain ⟨x', hx'⟩ : ∃ z, pickZ v' k = z := ⟨_, rfl⟩
        have HX' := hide (fun w => hx' ▸ Pick_any v' k w)
        rw [hx'] at hgt
        clear HS hle hx'
        go_enter Try.func10, Try.ntmps10
        go_wp2_with fail
        refine (HX.out _).mono ?_
        rintro e w1 ⟨rfl, rfl⟩
        go_wp2_with fail
        refine HR.out.mono ?_
        rintro e w1 ⟨rfl, rfl⟩
        go_wp2_with fail
        refine (HX.out _).mono ?_
        rintro e w1 ⟨rfl, rfl⟩
        go_wp2_with fail
        refine (HX'.out _).mono ?_
        rintro e w1 ⟨rfl, rfl⟩
        go_wp2_with fail
        refine HI.out.mono ?_
        rintro e w1 ⟨rfl, rfl⟩
        go_wp2_with fail
        refine (HT.out _).mono ?_
        rintro e w1 ⟨rfl, rfl⟩
        go_wp2_with fail
        refine (HT2.out _).mono ?_
        rintro e w1 ⟨rfl, rfl⟩
        go_wp2_with fail
        refine (HF.out _).mono ?_
        rintro e w1 ⟨rfl, hb1⟩
        have HB1 := hide (HB.out.trans (hb1.mono (Nat.le_refl _)))
        clear hb1
        go_wp2_with fail
        refine (HF2.out _).mono ?_
        rintro e w1 ⟨rfl, rfl⟩
        go_wp2_with fail
        refine (HF.out _).mono ?_
        rintro e w2 ⟨rfl, hb2⟩
        have HB2 := hide (HB1.out.trans (hb2.mono HB1.out.size))
        clear hb2
        go_wp2_with fail
        refine (HI2.out _ _).mono ?_
        rintro e w3 ⟨rfl, rfl⟩
        by_cases hg : InZ v 70368744177664
        · rw [decide_eq_true hg]
          have HL2 := hide (HL.out hg)
          clear hg
          go_wp2_with fail
          refine (HF.out _).mono ?_
          rintro e w3 ⟨rfl, hb3⟩
          have HB3 := hide (HB2.out.trans (hb3.mono HB2.out.size))
          clear hb3
          go_wp2_with fail
          refine (HL2.out _).mono ?_
          rintro e w1 ⟨rfl, rfl⟩
          go_wp2_with fail
          refine (HA.out _).mono ?_
          rintro e w1 ⟨rfl, rfl⟩
          go_wp2_with fail
          go_ret
          exact ⟨rfl, HB3.out⟩
        · rw [decide_eq_false hg]
          clear hg
          go_wp2_with fail
          refine (HA.out _).mono ?_
          rintro e w1 ⟨rfl, rfl⟩
          go_wp2_with fail
          go_ret
          exact ⟨rfl, HB2.out⟩
      · clear HS
        go_enter Try.func10, Try.ntmps10
        go_wp2_with fail
        refine (HX.out _).mono ?_
        rintro e w1 ⟨rfl, rfl⟩
        go_wp2_with fail
        refine HR.out.mono ?_
        rintro e w1 ⟨rfl, rfl⟩
        go_wp2_with fail
        refine HI.out.mono ?_
        rintro e w1 ⟨rfl, rfl⟩
        go_wp2_with fail
        refine (HT.out _).mono ?_
        rintro e w1 ⟨rfl, rfl⟩
        go_wp2_with fail
        refine (HT2.out _).mono ?_
        rintro e w1 ⟨rfl, rfl⟩
        go_wp2_with fail
        refine (HF.out _).mono ?_
        rintro e w1 ⟨rfl, hb1⟩
        have HB1 := hide (HB.out.trans (hb1.mono (Nat.le_refl _)))
        clear hb1
        go_wp2_with fail
        refine (HF2.out _).mono ?_
        rintro e w1 ⟨rfl, rfl⟩
        go_wp2_with fail
        refine (HF.out _).mono ?_
        rintro e w2 ⟨rfl, hb2⟩
        have HB2 := hide (HB1.out.trans (hb2.mono HB1.out.size))
        clear hb2
        go_wp2_with fail
        refine (HI2.out _ _).mono ?_
        rintro e w3 ⟨rfl, rfl⟩
        by_cases hg : InZ v 70368744177664
        · rw [decide_eq_true hg]
          have HL2 := hide (HL.out hg)
          clear hg
          go_wp2_with fail
          refine (HF.out _).mono ?_
          rintro e w3 ⟨rfl, hb3⟩
          have HB3 := hide (HB2.out.trans (hb3.mono HB2.out.size))
          clear hb3
          go_wp2_with fail
          refine (HL2.out _).mono ?_
          rintro e w1 ⟨rfl, rfl⟩
          go_wp2_with fail
          refine (HA.out _).mono ?_
          rintro e w1 ⟨rfl, rfl⟩
          go_wp2_with fail
          go_ret
          exact ⟨rfl, HB3.out⟩
        · rw [decide_eq_false hg]
          clear hg
          go_wp2_with fail
          refine (HA.out _).mono ?_
          rintro e w1 ⟨rfl, rfl⟩
          go_wp2_with fail
          go_ret
          exact ⟨rfl, HB2.out⟩
    · by_cases h1 : d < 4611686018427387904
      · clear HS
        go_enter Try.func10, Try.ntmps10
        go_wp2_with fail
        refine (HX.out _).mono ?_
        rintro e w1 ⟨rfl, rfl⟩
        go_wp2_with fail
        refine HR.out.mono ?_
        rintro e w1 ⟨rfl, rfl⟩
        go_wp2_with fail
        refine (HX.out _).mono ?_
        rintro e w1 ⟨rfl, rfl⟩
        go_wp2_with fail
        refine (HP.out _ _).mono ?_
        rintro e w1 ⟨rfl, rfl⟩
        go_wp2_with fail
        all_goals
          refine HI.out.mono ?_
          rintro e w1 ⟨rfl, rfl⟩
          go_wp2_with fail
          refine (HT.out _).mono ?_
          rintro e w1 ⟨rfl, rfl⟩
          go_wp2_with fail
          refine (HT2.out _).mono ?_
          rintro e w1 ⟨rfl, rfl⟩
          go_wp2_with fail
          refine (HF.out _).mono ?_
          rintro e w1 ⟨rfl, hb1⟩
          have HB1 := hide (HB.out.trans (hb1.mono (Nat.le_refl _)))
          clear hb1
          go_wp2_with fail
          refine (HF2.out _).mono ?_
          rintro e w1 ⟨rfl, rfl⟩
          go_wp2_with fail
          refine (HF.out _).mono ?_
          rintro e w2 ⟨rfl, hb2⟩
          have HB2 := hide (HB1.out.trans (hb2.mono HB1.out.size))
          clear hb2
          go_wp2_with fail
          refine (HI2.out _ _).mono ?_
          rintro e w3 ⟨rfl, rfl⟩
          by_cases hg : InZ v 70368744177664
          · rw [decide_eq_true hg]
            have HL2 := hide (HL.out hg)
            clear hg
            go_wp2_with fail
            refine (HF.out _).mono ?_
            rintro e w3 ⟨rfl, hb3⟩
            have HB3 := hide (HB2.out.trans (hb3.mono HB2.out.size))
            clear hb3
            go_wp2_with fail
            refine (HL2.out _).mono ?_
            rintro e w1 ⟨rfl, rfl⟩
            go_wp2_with fail
            refine (HA.out _).mono ?_
            rintro e w1 ⟨rfl, rfl⟩
            go_wp2_with fail
            go_ret
            exact ⟨rfl, HB3.out⟩
          · rw [decide_eq_false hg]
            clear hg
            go_wp2_with fail
            refine (HA.out _).mono ?_
            rintro e w1 ⟨rfl, rfl⟩
            go_wp2_with fail
            go_ret
            exact ⟨rfl, HB2.out⟩
      · omega
  · rw [decide_eq_false hi] at HI
    clear hi
    by_cases h0 : 0 < d
    · by_cases h1 : d < 4611686018427387904
      · obtain ⟨q, v', e1, e2, e3, hle⟩ := HS.out h0 h1
        have hgt : ¬ pickZ v' k < x := by omega
        obtain ⟨x', hx'⟩ : ∃ z, pickZ v' k = z := ⟨_, rfl⟩
        have HX' := hide (fun w => hx' ▸ Pick_any v' k w)
        rw [hx'] at hgt
        clear HS hle hx'
        go_enter Try.func10, Try.ntmps10
        go_wp2_with fail
        refine (HX.out _).mono ?_
        rintro e w1 ⟨rfl, rfl⟩
        go_wp2_with fail
        refine HR.out.mono ?_
        rintro e w1 ⟨rfl, rfl⟩
        go_wp2_with fail
        refine (HX.out _).mono ?_
        rintro e w1 ⟨rfl, rfl⟩
        go_wp2_with fail
        refine (HX'.out _).mono ?_
        rintro e w1 ⟨rfl, rfl⟩
        go_wp2_with fail
        refine HI.out.mono ?_
        rintro e w1 ⟨rfl, rfl⟩
        go_wp2_with fail
        refine (HA.out _).mono ?_
        rintro e w1 ⟨rfl, rfl⟩
        go_wp2_with fail
        go_ret
        exact ⟨rfl, HB.out⟩
      · clear HS
        go_enter Try.func10, Try.ntmps10
        go_wp2_with fail
        refine (HX.out _).mono ?_
        rintro e w1 ⟨rfl, rfl⟩
        go_wp2_with fail
        refine HR.out.mono ?_
        rintro e w1 ⟨rfl, rfl⟩
        go_wp2_with fail
        refine HI.out.mono ?_
        rintro e w1 ⟨rfl, rfl⟩
        go_wp2_with fail
        refine (HA.out _).mono ?_
        rintro e w1 ⟨rfl, rfl⟩
        go_wp2_with fail
        go_ret
        exact ⟨rfl, HB.out⟩
    · by_cases h1 : d < 4611686018427387904
      · clear HS
        go_enter Try.func10, Try.ntmps10
        go_wp2_with fail
        refine (HX.out _).mono ?_
        rintro e w1 ⟨rfl, rfl⟩
        go_wp2_with fail
        refine HR.out.mono ?_
        rintro e w1 ⟨rfl, rfl⟩
        go_wp2_with fail
        refine (HX.out _).mono ?_
        rintro e w1 ⟨rfl, rfl⟩
        go_wp2_with fail
        refine (HP.out _ _).mono ?_
        rintro e w1 ⟨rfl, rfl⟩
        go_wp2_with fail
        all_goals
          refine HI.out.mono ?_
          rintro e w1 ⟨rfl, rfl⟩
          go_wp2_with fail
          refine (HA.out _).mono ?_
          rintro e w1 ⟨rfl, rfl⟩
          go_wp2_with fail
          go_ret
          exact ⟨rfl, HB.out⟩
      · omega
end Go.Proofs.Ytehkccogbgjcaaa
