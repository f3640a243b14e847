/-
Contracts of slants: what is wrong with them; one made; from where a place comes. No statement is proved here.
-/
import Derived.Test.YtgcnmffbhjlolabDoorShr1
import Derived.StillTailTactics
namespace Go.Proofs.YtgcnmffbhjlolabDoor
open Go.RowKit

structure Sl where
  a : Int
  b : Int
  cx : Int
  cy : Int
def Sl.list (l : Sl) : List Int := [l.a, l.b, l.cx, l.cy]
def Sl.cells (l : Sl) : List Value := [.int .i64 l.a, .int .i64 l.b, .int .i64 l.cx, .int .i64 l.cy]
def Sl.ok (l : Sl) : Prop := slope l.a ∧ slope l.b ∧ InZ l.cx 32768 ∧ InZ l.cy 32768
instance (l : Sl) : Decidable l.ok := by unfold Sl.ok slope; infer_instance
/-- the table of how far from 0 each number may be -/
def Tab (w : World) : Prop := 0 < w.heap.size ∧ ∀ i, i < 4 → w.cell? ⟨0, i, none⟩ = some (.int .i64 (([262144, 262144, 32768, 32768] : List Int).getD i 0))
theorem Tab.below {w w' : World} (h : Tab w) (hb : Below w.heap.size w w') : Tab w' := ⟨Nat.lt_of_lt_of_le h.1 hb.size, fun i hi => (hb.cell (p := ⟨0, i, none⟩) h.1).trans (h.2 i hi)⟩
theorem Tab.drewN {w : World} (h : Tab w) (n : Nat) : Tab (w.drewN n) := h
def okL (xs : List Int) : Prop := InZ (xs.getD 0 0) 262144 ∧ InZ (xs.getD 1 0) 262144 ∧ InZ (xs.getD 2 0) 32768 ∧ InZ (xs.getD 3 0) 32768
instance (xs : List Int) : Decidable (okL xs) := by unfold okL; infer_instance
theorem okL_iff {xs : List Int} : okL xs ↔ ∀ j, j < 4 → InZ (xs.getD j 0) (([262144, 262144, 32768, 32768] : List Int).getD j 0) := by
  refine ⟨fun ⟨h0, h1, h2, h3⟩ j hj => ?_, fun h => ⟨h 0 (by omega), h 1 (by omega), h 2 (by omega), h 3 (by omega)⟩⟩
  match j, hj with
  | 0, _ => exact h0
  | 1, _ => exact h1
  | 2, _ => exact h2
  | 3, _ => exact h3
/-- what is wrong with slants -/
def slC (xs : List Int) : Int := if xs.length ≠ 4 then 12 else if okL xs then 0 else 11
theorem slC_four (l : Sl) : slC l.list = if l.ok then 0 else 11 := by
  rw [slC, if_neg (by simp [Sl.list])]
  by_cases k : l.ok
  · rw [if_pos k]; exact if_pos k
  · rw [if_neg k]; exact if_neg k
theorem four_sl {xs : List Int} (h : xs.length = 4) : ∃ l : Sl, xs = l.list := by
  match xs, h with
  | [a, b, c, d], _ => exact ⟨⟨a, b, c, d⟩, rfl⟩
theorem IY.somewhere {w : World} {A : Option Addr} {n c : Nat} {xs : List Int} (h : IY w A n c xs) (hn : 0 < n) : ∃ b o, A = some ⟨b, o, none⟩ := by
  obtain ⟨b, o, e, _⟩ := h.2.2.2.2 hn
  exact ⟨b, o, e⟩

set_option maxHeartbeats 1000000 in
theorem SCheck_any (A : Option Addr) (n c : Nat) (xs : List Int) (w : World) (h : IY w A n c xs) (ht : Tab w) :
    Calls Tryd.prog 9 #[.slice A n c] w fun e w' => e = .returned (.int .i64 (slC xs)) ∧ w = w' := by
  by_cases hn : n = 4
  · subst hn
    have hE : slC xs = if okL xs then 0 else 11 := by rw [slC, if_neg (by rw [h.1]; decide)]
    obtain ⟨v, hv⟩ : ∃ v, slC xs = v := ⟨_, rfl⟩
    rw [hv] at hE ⊢
    have HE := Lib.hid hE
    have HB := hide h
    have HT := hide ht
    clear h ht hE hv
    go_enter Tryd.func9, Tryd.ntmps9
    go_wp2_with fail
    go_loopw [10] (fun i wr => ∃ k : Nat, k ≤ 4 ∧ i = .int .i64 k ∧ (∀ j, j < k → InZ (xs.getD j 0) (([262144, 262144, 32768, 32768] : List Int).getD j 0)) ∧ w = wr) (fun i _ => 4 - (intOf i).toNat)
    case atStart => exact ⟨0, Nat.zero_le _, rfl, fun j hj => absurd hj (by omega), rfl⟩
    case round =>
      obtain ⟨k, hk, rfl, hA, rfl⟩ := hrel
      have HA := hide hA
      clear hA
      by_cases hlt : k < 4
      · obtain ⟨p, o, rfl, _, hc⟩ := HB.out.2.2.2.2 (by omega)
        have c1 := hc k hlt
        have c2 := HT.out.2 k hlt
        clear hc
        have i0 : (0 : Int) ≤ (k : Int) := by omega
        have i1 : (k : Int) < (4 : Int) := by omega
        obtain ⟨u, hu⟩ : ∃ u, xs.getD k 0 = u := ⟨_, rfl⟩
        obtain ⟨t, ht⟩ : ∃ t, ([262144, 262144, 32768, 32768] : List Int).getD k 0 = t := ⟨_, rfl⟩
        have htp : 0 ≤ t ∧ t ≤ 9223372036854775807 := by
          rw [← ht]
          rcases (show k = 0 ∨ k = 1 ∨ k = 2 ∨ k = 3 by omega) with rfl | rfl | rfl | rfl <;> decide
        have HW := hide (Swithin_any u t w htp)
        have HU := Lib.hid hu
        have HTt := Lib.hid ht
        rw [hu] at c1
        rw [ht] at c2
        clear hu ht htp
        by_cases a1 : InZ u t
        · have HS : Hid (∀ j, j < k + 1 → InZ (xs.getD j 0) (([262144, 262144, 32768, 32768] : List Int).getD j 0)) := fun j hj => by
            rcases Nat.lt_or_ge j k with q | q
            · exact HA.out j q
            · obtain rfl : j = k := by omega
              rw [HU.out, HTt.out]; exact a1
          rw [decide_eq_true a1] at HW
          clear a1
          go_wp2_with fail
          refine HW.out.mono ?_
          rintro e w1 ⟨rfl, rfl⟩
          go_wp2_with fail
          go_roundw
          case rel => exact ⟨k + 1, by omega, by go_num, HS.out, trivial⟩
          case measure => simp [intOf]; omega
        · obtain rfl : v = 11 := by
            rw [HE.out, if_neg]
            intro hall
            have := okL_iff.1 hall k hlt
            rw [HU.out, HTt.out] at this
            exact a1 this
          rw [decide_eq_false a1] at HW
          clear a1
          go_wp2_with fail
          refine HW.out.mono ?_
          rintro e w1 ⟨rfl, rfl⟩
          go_wp2_with fail
          go_ret
          exact ⟨rfl, rfl⟩
      · obtain rfl : k = 4 := by omega
        obtain rfl : v = 0 := by rw [HE.out, if_pos (okL_iff.2 HA.out)]
        go_wp2_with fail
        go_ret
        exact ⟨rfl, rfl⟩
  · have e : slC xs = 12 := by rw [slC, if_pos (by rw [h.1]; exact hn)]
    rw [e]
    have i1 : ((n : Int) == 4) = false := by simp; omega
    have i2 : ((n : Int) != 4) = true := by simp; omega
    clear h e hn ht
    go_enter Tryd.func9, Tryd.ntmps9
    go_wp2_with fail
    go_ret
    exact ⟨rfl, rfl⟩

/-- what New answers -/
def SNewQ (xs : List Int) (w : World) (e : Ending) (w' : World) : Prop :=
  Below w.heap.size w w' ∧ ((slC xs = 0 ∧ ∃ l : Sl, ∃ g, xs = l.list ∧ l.ok ∧ e = .returned (.tuple #[.pointer (some ⟨g, 0, none⟩), .int .i64 0]) ∧ Bx w' g l.cells) ∨ (slC xs ≠ 0 ∧ e = .returned (.tuple #[.pointer none, .int .i64 (slC xs)])))
theorem slC_zero {xs : List Int} (h : slC xs = 0) : ∃ l : Sl, xs = l.list ∧ l.ok := by
  by_cases h4 : xs.length = 4
  · obtain ⟨l, rfl⟩ := four_sl h4
    rw [slC_four] at h
    by_cases k : l.ok
    · exact ⟨l, rfl, k⟩
    · rw [if_neg k] at h; omega
  · rw [slC, if_pos h4] at h; omega
set_option maxRecDepth 100000 in
set_option maxHeartbeats 1000000 in
theorem SNew_any (A : Option Addr) (n c : Nat) (xs : List Int) (w : World) (h : IY w A n c xs) (ht : Tab w) : Calls Tryd.prog 7 #[.slice A n c] w (SNewQ xs w) := by
  have HC := hide (SCheck_any A n c xs w h ht)
  clear ht
  by_cases h0 : slC xs = 0
  · obtain ⟨l, rfl, hl⟩ := slC_zero h0
    obtain rfl : 4 = n := h.1
    obtain ⟨b, o, rfl⟩ := h.somewhere (by omega)
    obtain ⟨b', o', e', _, hcell⟩ := h.2.2.2.2 (by omega)
    cases e'
    have c0 : w.cell? ⟨b, o, none⟩ = some (.int .i64 l.a) := hcell 0 (by omega)
    have c1 : w.cell? ⟨b, o + 1, none⟩ = some (.int .i64 l.b) := hcell 1 (by omega)
    have c2 : w.cell? ⟨b, o + 2, none⟩ = some (.int .i64 l.cx) := hcell 2 (by omega)
    have c3 : w.cell? ⟨b, o + 3, none⟩ = some (.int .i64 l.cy) := hcell 3 (by omega)
    rw [h0] at HC
    have H0 := Lib.hid h0
    have HL := hide hl
    clear hcell h h0 hl
    go_enter Tryd.func7, Tryd.ntmps7
    go_wp2_with fail
    refine HC.out.mono ?_
    rintro e w1 ⟨rfl, rfl⟩
    go_wp2_with fail
    refine wp_region_still_tail 13 (by kernel_rfl) (by kernel_rfl) ?_
    simp only [List.take_succ_cons, List.take_zero, List.drop_succ_cons, List.drop_zero]
    repeat (refine wpStill_step (fun K hK => ?_); go_simp; refine hK _ ?_; clear hK K)
    refine wpStill_nil ?_
    change wpList _ _ _ _ _ w.drew
    have hd : Below w.heap.size w w.drew := (Below.refl _ _).drew
    clear c0 c1 c2 c3
    generalize w.drew = wD at hd ⊢
    have HX : Hid (Bx (wD.alloc (.cells l.cells.toArray 57)) wD.heap.size l.cells) := Bx.new wD l.cells 57
    have HB := hide (hd.trans ((below_alloc wD (.cells l.cells.toArray 57)).mono hd.size))
    clear hd
    go_wp2_with fail
    refine bodyPost_ret (v := .tuple #[.pointer (some ⟨wD.heap.size, 0, none⟩), .int .i64 0]) (by simp [results, Tryd.results7, go_sem]) rfl ?_
    exact ⟨HB.out, .inl ⟨H0.out, l, _, rfl, HL.out, rfl, HX.out⟩⟩
  · have hp : ∀ v, slC xs = v → SNewQ xs w (.returned (.tuple #[.pointer none, .int .i64 v])) w := fun v hv => ⟨Below.refl _ _, .inr ⟨h0, by rw [hv]⟩⟩
    obtain ⟨v, hv⟩ : ∃ v, slC xs = v := ⟨_, rfl⟩
    have HP := hide (hp v hv)
    rw [hv] at HC h0
    have h1 : (v != 0) = true := by simpa using h0
    clear hp hv h h0
    go_enter Tryd.func7, Tryd.ntmps7
    go_wp2_with fail
    refine HC.out.mono ?_
    rintro e w1 ⟨rfl, rfl⟩
    go_wp2_with fail
    refine bodyPost_ret (v := .tuple #[.pointer none, .int .i64 v]) (by simp [results, Tryd.results7, go_sem]) rfl HP.out
end Go.Proofs.YtgcnmffbhjlolabDoor
