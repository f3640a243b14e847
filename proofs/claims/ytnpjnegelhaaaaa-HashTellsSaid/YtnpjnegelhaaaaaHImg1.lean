/-
Contract of the reference's digest of an image. No statement is proved here.
-/
import Derived.Test.YtnpjnegelhaaaaaHImg0
import Derived.Outline
namespace Go.Proofs.Ytnpjnegelhaaaaa
open Go.RowKit

theorem append_bel {W w3 w4 wc : World} {v : Value} {zs : List Int} {m : Nat} {A : Option Addr} {n cap : Nat} {xs : List Int} {ty : TypeId} (o : w3.ownsRow W.heap.size 5 1 v m (bytesV zs)) (y : BY w4 A n cap xs) (k : Bel W wc) (k3 : Bel w3 wc) (k4 : Bel w4 wc) (hs : m + n ≤ 100000000) :
    ∃ v' w', (Builtin.append_ #[38, 38] ty #[v, .slice A n cap]).run Try.prog wc = .ok v' w' ∧ w'.ownsRow W.heap.size 5 1 v' (m + n) (bytesV (zs ++ xs)) ∧ Bel W w' := by
  obtain ⟨v', w', hr, ho, hb⟩ := append_more wc W.heap.size v m zs (own_below o k3) (Below.size k) A n cap xs (y.below k4) hs ty
  exact ⟨v', w', hr, ho, Below.trans k hb⟩

set_option maxHeartbeats 4000000 in
set_option maxRecDepth 100000 in
theorem RImage_any (x y c : Int) (A : Option Addr) (n cap : Nat) (xs : List Int) (w : World) (h : BY w A n cap xs) (hn : n ≤ 20000) :
    Calls Try.prog 43 #[.agg #[.int .i64 x, .int .i64 y, .int .i64 c, .slice A n cap]] w (Says w (.int .u64 (fnvK 14695981039346656037 (((fourL x 4 ++ fourL y 4) ++ fourL c 4) ++ xs) (12 + n)))) := by
  have F1 := hide (fun w => four_any x w)
  have F2 := hide (fun w => four_any y w)
  have F3 := hide (fun w => four_any c w)
  have l1 := fourL_length x 4
  have l2 := fourL_length y 4
  have l3 := fourL_length c 4
  have m1 := hide (fourL_byte x 4)
  have m2 := hide (fourL_byte y 4)
  have m3 := hide (fourL_byte c 4)
  obtain ⟨X4, hX4⟩ : ∃ l, fourL x 4 = l := ⟨_, rfl⟩
  obtain ⟨Y4', hY4⟩ : ∃ l, fourL y 4 = l := ⟨_, rfl⟩
  obtain ⟨C4, hC4⟩ : ∃ l, fourL c 4 = l := ⟨_, rfl⟩
  rw [hX4] at F1 l1 m1 ⊢
  rw [hY4] at F2 l2 m2 ⊢
  rw [hC4] at F3 l3 m3 ⊢
  clear hX4 hY4 hC4
  have H0 := hide (below_alloc w (.cells #[.int .i64 x, .int .i64 y, .int .i64 c, .slice A n cap] 40))
  have B0 := Bx.at (w := w) (g := w.heap.size) [.int .i64 x, .int .i64 y, .int .i64 c, .slice A n cap] 40 rfl
  have e0 : [Value.int .i64 x, .int .i64 y, .int .i64 c, .slice A n cap].toArray = #[Value.int .i64 x, .int .i64 y, .int .i64 c, .slice A n cap] := rfl
  rw [e0] at B0
  have Y0 := h.below H0.out
  have Z0 : w.heap.size < (w.alloc (.cells #[.int .i64 x, .int .i64 y, .int .i64 c, .slice A n cap] 40)).heap.size := by simp
  obtain ⟨D, hD⟩ : ∃ D, fnvK 14695981039346656037 (((X4 ++ Y4') ++ C4) ++ xs) (12 + n) = D := ⟨_, rfl⟩
  rw [hD]
  have HD := Lib.hid hD
  clear hD
  go_enter Try.func43, Try.ntmps43
  go_wp2_with fail
  generalize w.alloc (.cells #[.int .i64 x, .int .i64 y, .int .i64 c, .slice A n cap] 40) = W at *
  have KC := hide (fun w' (h : Bel W w') => (⟨(B0.below h).four.2.1, (B0.below h).four.2.2.1⟩ : w'.cell? ⟨w.heap.size, 0, none⟩ = some (.int .i64 x) ∧ w'.cell? ⟨w.heap.size, 1, none⟩ = some (.int .i64 y)))
  have HB0 := hide B0
  have HY0 := hide Y0
  clear B0 Y0 h
  go_region_held3 (fun w' => w'.cell? ⟨w.heap.size, 0, none⟩ = some (.int .i64 x) ∧ w'.cell? ⟨w.heap.size, 1, none⟩ = some (.int .i64 y))
    ((refine KC.out _ ?_; repeat (first | assumption | exact Bel.refl _ | refine Bel.drew ?_)))
    (first
      | (go_at_call_of 68 (Value.int .i64 x); refine (F1.out _).mono ?_; rintro e w3 ⟨v3, rfl, o3, hb3⟩; rw [l1] at o3; have k3 : Bel W w3 := Bel.trans (by repeat (first | assumption | exact Bel.refl _ | refine Bel.drew ?_)) hb3; have O3 := hide (own_less o3 (show W.heap.size ≤ _ from Nat.le_refl _)); clear o3 hb3)
      | (go_at_call_of 68 (Value.int .i64 y); refine (F2.out _).mono ?_; rintro e w4 ⟨v4, rfl, o4, hb4⟩; rw [l2] at o4; obtain ⟨A4, c4, rfl, y4⟩ := BY.ofOwn o4 m2.out; have k34 : Bel w3 w4 := Bel.trans (by repeat (first | assumption | exact Bel.refl _ | refine Bel.drew ?_)) hb4; have k4 : Bel W w4 := Bel.trans k3 k34; have Y4 := hide y4; clear o4 hb4 y4)
      | (have _g := O3.out
         have _h := Y4.out
         refine step_append_run (R := fun v' w' => w'.ownsRow W.heap.size 5 1 v' (4 + 4) (bytesV (X4 ++ Y4')) ∧ Bel W w') rfl _ _ _ rfl v3 (.slice A4 4 c4) rfl rfl ?_ ?_
         · exact append_bel (W := W) (w3 := w3) (w4 := w4) _g _h (by repeat (first | assumption | exact Bel.refl _ | refine Bel.drew ?_)) (by repeat (first | assumption | exact Bel.refl _ | refine Bel.drew ?_)) (by repeat (first | assumption | exact Bel.refl _ | refine Bel.drew ?_)) (by omega)
         clear _g _h
         rintro v5 w5 ⟨o5, k5⟩
         have O5 := hide o5
         clear o5)
      | fail)
  obtain ⟨_, _, _, g2, _, _, _, _, _⟩ := (HB0.out.below k5).four
  go_wp2_with fail
  refine (F3.out _).mono ?_
  rintro e w6 ⟨v6, rfl, o6, hb6⟩
  rw [l3] at o6
  obtain ⟨A6, c6, rfl, y6⟩ := BY.ofOwn o6 m3.out
  have k6 : Bel W w6 := Bel.trans k5 hb6
  obtain ⟨v7, w7, hap, o7, k7⟩ := append_bel (ty := 38) O5.out y6 k6 hb6 (Bel.refl _) (by omega)
  clear o6 hb6 y6 g2
  obtain ⟨_, _, _, _, g3, _, _, _, _⟩ := (HB0.out.below k7).four
  obtain ⟨v8, w8, hap2, o8, k8⟩ := append_bel (ty := 38) o7 (HY0.out.below k7) k7 (Bel.refl _) (Bel.refl _) (by omega)
  have hby : ∀ z ∈ (X4 ++ Y4' ++ C4) ++ xs, 0 ≤ z ∧ z ≤ 255 := by
    intro z hz
    simp only [List.mem_append] at hz
    rcases hz with ((q | q) | q) | q
    · exact m1.out z q
    · exact m2.out z q
    · exact m3.out z q
    · exact HY0.out.2.2.2.1 z q
  obtain ⟨A8, c8, rfl, y8⟩ := BY.ofOwn o8 hby
  have R1 := hide (RBytes_any _ _ _ _ _ y8)
  have en : 4 + 4 + 4 + n = 12 + n := by omega
  rw [en, HD.out] at R1
  have HF := hide (H0.out.trans (Below.mono k8 H0.out.size))
  clear o7 o8 y8 hby k8 k7
  go_wp2_with (first | (at_builtin; refine wpList_append_run rfl _ _ _ rfl _ _ rfl rfl _ _ hap ?_) | (at_builtin; refine wpList_append_run rfl _ _ _ rfl _ _ rfl rfl _ _ hap2 ?_) | fail)
  refine R1.out.mono ?_
  rintro e w9 ⟨rfl, rfl⟩
  go_wp2_with fail
  go_ret
  exact ⟨rfl, HF.out⟩

end Go.Proofs.Ytnpjnegelhaaaaa
