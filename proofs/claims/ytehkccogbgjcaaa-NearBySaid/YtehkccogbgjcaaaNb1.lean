/-
Contract of near's By of what notes what it is asked for. No statement is proved here.
-/
import Derived.Test.YtehkccogbgjcaaaNb0
namespace Go.Proofs.Ytehkccogbgjcaaa
open Go.RowKit

theorem bytesV_one (cs : List Int) : ∀ v ∈ bytesV cs, v.oneCell' = true := by
  intro v hv
  simp [bytesV] at hv
  obtain ⟨x, _, rfl⟩ := hv
  rfl
/-- as many bytes: fewer are filled up, more left out -/
def pxL (xs : List Int) (C : Nat) : List Int := xs.take C ++ List.replicate (C - xs.length) 0
theorem pxL_length (xs : List Int) (C : Nat) : (pxL xs C).length = C := by unfold pxL; simp; omega
theorem pxL_get (xs : List Int) (C i : Nat) (hi : i < C) : (pxL xs C).getD i 0 = if i < xs.length then xs.getD i 0 else 0 := by
  unfold pxL
  rw [List.getD_eq_getElem?_getD, List.getElem?_append]
  split
  · rename_i h
    rw [List.length_take] at h
    rw [if_pos (by omega), List.getElem?_take, if_pos hi, List.getD_eq_getElem?_getD]
  · rename_i h
    rw [List.length_take] at h
    rw [if_neg (by omega)]
    simp [List.getElem?_replicate]
    split <;> rfl
theorem bytesV_app' (xs ys : List Int) : bytesV (xs ++ ys) = bytesV xs ++ bytesV ys := by simp [bytesV]
theorem run_copy_gen (w : World) (g C : Nat) (A : Option Addr) (n cap : Nat) (xs : List Int) (hC : 1 ≤ C) (hR : RowAt w g (noughts C)) (h : BY w A n cap xs) :
    ∃ w', (Builtin.copy_ #[44, 44] 3 #[.slice (some ⟨g, 0, none⟩) C C, .slice A n cap]).run Try.prog w = .ok (.int .i64 (min n C : Nat)) w' ∧ RowAt w' g (bytesV (pxL xs C)) ∧ w.grownBy w' (some g) := by
  have hxl := h.1
  cases A with
  | none =>
    have hn0 : n = 0 := by
      rcases Nat.eq_zero_or_pos n with q | q
      · exact q
      · obtain ⟨b, o, e, _⟩ := h.2.2.2.2 q; cases e
    subst hn0
    have hx : xs = [] := List.eq_nil_of_length_eq_zero h.1
    subst hx
    obtain ⟨i0, hi, hz0, hz1, hz2⟩ := info_parts infoU8
    refine ⟨w, ?_, ?_, ⟨rfl, rfl, rfl, Nat.le_refl _, fun _ _ _ => rfl⟩⟩
    · simp [Builtin.copy_, run_underlying Try.underlying44, sizeOf, typeInfo, hi, Builtin.lenOf, Builtin.firstCells, storeCells]
      rfl
    · have : bytesV (pxL [] C) = noughts C := by simp [bytesV, pxL, noughts]
      rw [this]; exact hR
  | some ad =>
    have hm : min n C = (xs.take C).length := by rw [List.length_take]; omega
    have hcl : (bytesV (xs.take C)).length = min n C := by simp [bytesV]; omega
    have hsrc : ∀ j v, (bytesV (xs.take C))[j]? = some v → w.cell? (ad.add j) = some v := by
      intro j v hv
      have hj : j < min n C := by
        rcases Nat.lt_or_ge j (min n C) with q | q
        · exact q
        · rw [List.getElem?_eq_none (by omega)] at hv; cases hv
      obtain ⟨b, o, e, _, hc⟩ := h.2.2.2.2 (by omega)
      cases e
      have e2 : (⟨b, o, none⟩ : Addr).add j = ⟨b, o + j, none⟩ := by unfold Addr.add; split <;> simp_all
      rw [e2]
      refine (hc j (by omega)).trans ?_
      rw [← hv]
      have hj' : j < xs.length := by omega
      have hjC : j < C := by omega
      simp [bytesV, List.getD_eq_getElem?_getD, hj', hjC]
    have hrun := run_copy_row (P := Try.prog) w 44 44 3 5 g 0 C C ad n cap (noughts C).toArray 5 (bytesV (xs.take C)) Try.underlying44 (by kernel_rfl) hR hcl hsrc (by rw [hcl]; simp [noughts]; omega) (bytesV_one _)
    rw [hcl] at hrun
    refine ⟨_, hrun, ?_, grownBy_row _ _ _⟩
    have e : List.take 0 (noughts C).toArray.toList ++ bytesV (xs.take C) ++ List.drop (0 + min n C) (noughts C).toArray.toList = bytesV (pxL xs C) := by
      unfold pxL
      rw [bytesV_app']
      simp [noughts, bytesV]
      omega
    rw [e]
    exact setRow_heap _ g _ _ _ _ hR
theorem BY.grown {w w' : World} {A : Option Addr} {n c : Nat} {xs : List Int} {g : Nat} (h : BY w A n c xs) (hg : w.grownBy w' (some g)) (hne : 0 < n → ∀ b o, A = some ⟨b, o, none⟩ → b ≠ g) : BY w' A n c xs := by
  obtain ⟨h1, h2, h3, h4, h5⟩ := h
  refine ⟨h1, h2, h3, h4, fun hn => ?_⟩
  obtain ⟨b, o, e, hlt, hc⟩ := h5 hn
  have hb := hne hn b o e
  exact ⟨b, o, e, Nat.lt_of_lt_of_le hlt hg.size, fun i hi => (World.cell?_of_block (hg.block b hlt (fun k => hb (by injection k)))).trans (hc i hi)⟩
theorem grown_row {w w2 : World} {g gp : Nat} (h : w.grownBy w2 (some g)) (hp : w.heap.size ≤ gp) {w3 : World} (h3 : w2.grownBy w3 (some gp)) : w.grownBy w3 (some g) :=
  ⟨h3.os.trans h.os, h3.tape.trans h.tape, h3.output.trans h.output, Nat.le_trans h.size h3.size, fun k hk hne => (h3.block k (Nat.lt_of_lt_of_le hk h.size) (fun e => by injection e with e; omega)).trans (h.block k hk hne)⟩
def ByP (w : World) (g : Nat) (A : Option Addr) (n cap C : Nat) (x y : Int) (ls : List Int) (e : Ending) (w' : World) : Prop :=
  ∃ gp gx cx, e = .returned (.slice (some ⟨gp, 0, none⟩) C C) ∧ w.heap.size ≤ gp ∧ w.heap.size ≤ gx ∧ RowAt w' gp (bytesV ls) ∧ Bx w' g [.slice A n cap, .slice (some ⟨gx, 0, none⟩) 2 cx] ∧ Bx w' gx [.int .i64 x, .int .i64 y] ∧ w.grownBy w' (some g)
set_option maxRecDepth 100000 in
set_option maxHeartbeats 4000000 in
theorem NBy_get (g : Nat) (A : Option Addr) (n cap : Nat) (xs : List Int) (C : Nat) (u v : Int) (w : World) (h : Bx w g [.slice A n cap, .slice none 0 0]) (hB : BY w A n cap xs) (hne : 0 < n → ∀ b o, A = some ⟨b, o, none⟩ → b ≠ g) (hC : 1 ≤ C ∧ C ≤ 50) (hr : RightN u v) :
    Calls Try.prog 25 #[.func (.func 26) #[.pointer (some ⟨g, 0, none⟩)] #[], .int .i64 C, .int .i64 u, .int .i64 v] w (ByP w g A n cap C (nearC u) (nearC v) (pxL xs C)) := by
  have H1 := hide (NRight_any u v w)
  rw [decide_eq_true hr] at H1
  have H2 := hide (fun w => NNearest_any u w hr.1)
  have H3 := hide (fun w => NNearest_any v w hr.2)
  obtain ⟨p, hp⟩ : ∃ p, nearC u = p := ⟨_, rfl⟩
  obtain ⟨q, hq⟩ : ∃ q, nearC v = q := ⟨_, rfl⟩
  rw [hp] at H2
  rw [hq] at H3
  rw [hp, hq]
  have hg := h.1
  have HG := hide (Get_any g A n cap p q _ (h.alloc (.cells (noughts C).toArray 5)))
  have G0 := hide (World.grownBy_alloc w (.cells (noughts C).toArray 5) (some g))
  have HR := hide (show RowAt (w.alloc (.cells (noughts C).toArray 5)) w.heap.size (noughts C) from by
    show (w.heap.push (.cells (noughts C).toArray 5 (0, 0)))[w.heap.size]? = _
    simp)
  have HY := hide (hB.below (below_alloc w (.cells (noughts C).toArray 5)))
  have HN := hide hne
  have hmk := fun (w : World) => run_make_bytes (m := (C : Int)) rfl (show C ≤ 100000000 by omega) w
  have c1 : ¬ (C : Int) < 1 := by omega
  have c2 : (0 : Int) ≤ (C : Int) := by omega
  have HC := hide hC
  have hnil : ∀ w : World, (binOp .eql 50 (.func (.func 26) #[.pointer (some ⟨g, 0, none⟩)] #[]) .nilFunc).run Try.prog w = Result.ok (.bool false) w := fun w => by kernel_rfl
  clear hr hp hq hC h hB hne
  go_enter Try.func25, Try.ntmps25
  go_wp2_with fail
  refine H1.out.mono ?_
  rintro e w1 ⟨rfl, rfl⟩
  go_wp2_with fail
  refine (H2.out _).mono ?_
  rintro e w1 ⟨rfl, rfl⟩
  go_wp2_with fail
  refine (H3.out _).mono ?_
  rintro e w1 ⟨rfl, rfl⟩
  go_wp2_with fail
  refine HG.out.mono ?_
  rintro e w2 ⟨gx, cx, rfl, hb1, hb2, hgx, hgr⟩
  simp only [World.size_alloc] at hgx
  have hY2 := HY.out.grown hgr HN.out
  have hR2 := HR.out.grown hgr (fun k => by injection k with k; omega)
  obtain ⟨w3, hcp, hrow, hgr3⟩ := run_copy_gen w2 w.heap.size C A n cap xs HC.out.1 hR2 hY2
  have K1 := hide hrow
  have K2 := hide (hb1.grown hgr3 (fun k => by injection k with k; omega))
  have K3 := hide (hb2.grown hgr3 (fun k => by injection k with k; omega))
  have K4 := hide (grown_row (grownBy_trans G0.out hgr) (Nat.le_refl _) hgr3)
  clear hY2 hR2 hrow hgr3 hb1 hb2 hgr hmk
  go_wp2_with fail
  go_ret
  exact ⟨_, gx, cx, rfl, Nat.le_refl _, by omega, K1.out, K2.out, K3.out, K4.out⟩
end Go.Proofs.Ytehkccogbgjcaaa
