/-
append to an empty row of one's own, in whatever world; where a region draws its order. No statement is proved here.
-/
import Derived.Test.YtehkccogbgjcaaaApp0
namespace Go.Proofs.Ytehkccogbgjcaaa
open Go.RowKit

theorem append_lit (wc : World) (base G : Nat) (hown : wc.ownsRow base 5 1 (.slice (some ⟨G, 0, none⟩) 0 0) 0 []) (hbase : base ≤ wc.heap.size) (A : Option Addr) (n cap : Nat) (xs : List Int) (hn : n ≤ 100000000) (h : BY wc A n cap xs) (ty : TypeId) :
    ∃ v' w', (Builtin.append_ #[44, 44] ty #[.slice (some ⟨G, 0, none⟩) 0 0, .slice A n cap]).run Try.prog wc = .ok v' w' ∧
      ∃ g' c', v' = .slice (some ⟨g', 0, none⟩) n c' ∧ base ≤ g' ∧ n ≤ c' ∧ c' ≤ maxLen ∧ Bx w' g' (bytesV xs) ∧ wc.grownBy w' (some G) ∧ ∃ cur, w'.heap[g']? = some (.cells cur 5 (0, 0)) := by
  obtain ⟨i0, hi, hz0, hz1, hz2⟩ := info_parts infoU8a
  cases A with
  | none =>
    have hn0 : n = 0 := by
      rcases Nat.eq_zero_or_pos n with q | q
      · exact q
      · obtain ⟨b, o, e, _⟩ := h.2.2.2.2 q; cases e
    subst hn0
    have hx : xs = [] := List.eq_nil_of_length_eq_zero h.1
    subst hx
    refine ⟨.slice (some ⟨G, 0, none⟩) 0 0, wc, ?_, G, 0, rfl, (hown.lt G (by simp [Value.ownBlock])).1, Nat.le_refl _, by unfold maxLen; omega, Bx.ofOwn hown, ⟨rfl, rfl, rfl, Nat.le_refl _, fun _ _ _ => rfl⟩, ?_⟩
    · simp [Builtin.append_, run_underlying Try.underlying44, sizeOf, typeInfo, hi, Builtin.lenOf, Builtin.firstCells, storeCells]
    · rcases hown.2 with ⟨e1, _⟩ | ⟨g', c', cur, e1, _, hh, _⟩
      · cases e1
      · cases e1; exact ⟨cur, hh⟩
  | some ad =>
    have hc : ∀ j u, (bytesV xs)[j]? = some u → wc.cell? (ad.add j) = some u := by
      intro j u hu
      have hl : j < n := by
        rcases Nat.lt_or_ge j n with q | q
        · exact q
        · rw [List.getElem?_eq_none (by simp [bytesV, h.1]; exact q)] at hu; cases hu
      obtain ⟨b, o, e, hlt, hcell⟩ := h.2.2.2.2 (by omega)
      cases e
      have e2 : (⟨b, o, none⟩ : Addr).add j = ⟨b, o + j, none⟩ := by unfold Addr.add; split <;> simp_all
      rw [e2, hcell j hl, ← hu]
      have hl' : j < xs.length := by rw [h.1]; exact hl
      simp [bytesV, List.getD_eq_getElem?_getD, hl']
    obtain ⟨v', w', hr, ho, hg, hnil⟩ := run_append_own (P := Try.prog) wc base 44 ty 5 i0 (.int .u8 0) 1 1 Try.underlying44 hi hz0 hz1 hz2 rfl (by omega)
      _ 0 [] hown ad n cap (bytesV xs) (by simp [bytesV, h.1]) hc (fun u hu => by simp only [bytesV, List.mem_map] at hu; obtain ⟨_, _, rfl⟩ := hu; rfl) (by unfold maxLen; omega) (by omega) hbase
    simp only [Nat.zero_add, List.nil_append] at ho
    rcases ho.2 with ⟨e1, _⟩ | ⟨g', c', cur, e1, hbg, hh, h1, h2, _⟩
    · exact absurd (hnil.1 e1).1 (by simp)
    · subst e1
      exact ⟨_, w', hr, g', c', rfl, hbg, h1, h2, Bx.ofOwn ho, hg, cur, hh⟩

theorem BY.ofOwn {w : World} {base m : Nat} {v : Value} {zs : List Int} (h : w.ownsRow base 5 1 v m (bytesV zs)) (hz : ∀ x ∈ zs, 0 ≤ x ∧ x ≤ 255) : ∃ A c, v = .slice A m c ∧ BY w A m c zs := by
  have hl : zs.length = m := by have := h.1; simp [bytesV] at this; exact this
  rcases h.2 with ⟨rfl, rfl⟩ | ⟨g, cp, cur, rfl, _, _, h1, h2, _⟩
  · have : zs = [] := List.eq_nil_of_length_eq_zero hl
    subst this
    exact ⟨none, 0, rfl, BY.nil _ _ _ (Nat.zero_le _)⟩
  · subst hl
    exact ⟨_, _, rfl, BY.ofBytes h1 h2 hz (Bx.ofOwn h)⟩
theorem heap_ne {w w' : World} {g g' : Nat} {cs cur : Array Value} {T T' : TypeId} {fr : Nat × Nat} {row : Option Nat} (h : w.heap[g]? = some (.cells cs T fr)) (hg : w.grownBy w' row) (hr : some g ≠ row) (h' : w'.heap[g']? = some (.cells cur T' (0, 0))) (hT : T ≠ T') : g' ≠ g := by
  rintro rfl
  have hlt : g' < w.heap.size := by
    rcases Nat.lt_or_ge g' w.heap.size with q | q
    · exact q
    · rw [Array.getElem?_eq_none q] at h; cases h
  rw [hg.block g' hlt hr, h] at h'
  injection h' with h'
  injection h' with _ e
  exact hT e
theorem Bx.grown {w w' : World} {g : Nat} {l : List Value} {row : Option Nat} (h : Bx w g l) (hg : w.grownBy w' row) (hne : some g ≠ row) : Bx w' g l :=
  ⟨Nat.lt_of_lt_of_le h.1 hg.size, fun i v hv => ⟨(World.cell?_of_block (hg.block g h.1 hne)).trans (h.2 i v hv).1, (World.frozen?_of_block (hg.block g h.1 hne)).trans (h.2 i v hv).2⟩⟩
theorem bel_alloc {w w' : World} (h : Bel w w') (o : Obj) : Bel w (w'.alloc o) := Below.alloc h h.size o
theorem bel_set {w w' : World} (h : Bel w w') {g i : Nat} (hg : w.heap.size ≤ g) (u : Value) : Bel w (w'.setCell ⟨g, i, none⟩ u) := Below.setCell h hg u

end Go.Proofs.Ytehkccogbgjcaaa
