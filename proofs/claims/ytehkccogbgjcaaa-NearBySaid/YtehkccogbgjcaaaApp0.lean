/-
append([]byte{}, b...): bytes of the call's own. No program text of the project's; no statement is proved here.
-/
import Derived.Test.YtehkccogbgjcaaaRows
import Derived.Test.YtehkccogbgjcaaaImg0
import Derived.Laws.AppendOwn
import Derived.Laws.OwnMore
import Derived.Laws.MakeOwn
import Derived.Laws.CopyOwn
import Derived.Tactics
namespace Go.Proofs.Ytehkccogbgjcaaa
open Go.RowKit

theorem wpList_append_run {P : Program} {w : World} {ops : Array Oper} {rest : List Oper} {o : Oper} {a : Act} {Q : Exit → Act → World → Prop} (hgd : o.guard = none) (s x : Operand) (t : TypeId)
    (ho : o.op = .call { callee := .builtin .append, args := #[s, x], argTypes := #[t, t] }) (u v : Value) (hs : a.eval s = u) (hx : a.eval x = v) (v' : Value) (w' : World) (hr : (Builtin.append_ #[t, t] o.type #[u, v]).run P w = .ok v' w')
    (h : wpList P ops Q rest (a.put o.dst v') w') : wpList P ops Q (o :: rest) a w := by
  refine wpList_plain hgd fun K hK => ?_
  unfold Oper.wp
  simp [execOp, ho, resolve, invoke, builtin, hs, hx, hr, Result.andThen]
  exact hK _ _ h
/-- append in a region that draws its order, by what its run tells -/
theorem step_append_run {P : Program} {ops : Array Oper} {o : Oper} {a : Act} {w : World} {K : Act → World → Prop} {Q : Exit → Act → World → Prop} {E : Prop} (hgd : o.guard = none) (s x : Operand) (t : TypeId)
    (ho : o.op = .call { callee := .builtin .append, args := #[s, x], argTypes := #[t, t] }) (u v : Value) (hs : a.eval s = u) (hx : a.eval x = v) {R : Value → World → Prop} (hr : ∃ v' w', (Builtin.append_ #[t, t] o.type #[u, v]).run P w = .ok v' w' ∧ R v' w')
    (h : ∀ v' w', R v' w' → K (a.put o.dst v') w') : if Region.wanted o (yielded ops a.tmps) = true then Oper.wp P o a w K Q else E := by
  have hw : Region.wanted o (yielded ops a.tmps) = true := by simp [Region.wanted, hgd]
  rw [if_pos hw]
  obtain ⟨v', w', hr, hR⟩ := hr
  unfold Oper.wp
  simp [execOp, ho, resolve, invoke, builtin, hs, hx, hr, Result.andThen]
  exact h _ _ hR
theorem own_below {w w' : World} {base n : Nat} {e : TypeId} {size : Nat} {v : Value} {xs : List Value} (h : w.ownsRow base e size v n xs) (hb : Below w.heap.size w w') : w'.ownsRow base e size v n xs :=
  h.kept (row := none) ⟨hb.os, hb.tape, hb.output, hb.size, fun k hk _ => hb.block k hk⟩ (by cases hv : v.ownBlock <;> simp)
theorem own_less {w : World} {base base' n : Nat} {e : TypeId} {size : Nat} {v : Value} {xs : List Value} (h : w.ownsRow base e size v n xs) (hb : base' ≤ base) : w.ownsRow base' e size v n xs := by
  refine ⟨h.1, ?_⟩
  rcases h.2 with k | ⟨g, cap, cur, rfl, hg, rest⟩
  · exact .inl k
  · exact .inr ⟨g, cap, cur, rfl, Nat.le_trans hb hg, rest⟩
theorem infoU8a : (Try.prog.info? 5).map (fun i => (i.zero, i.size, i.bytes)) = some (some (.int .u8 0), 1, 1) := by kernel_rfl
def bytesV (xs : List Int) : List Value := xs.map fun x => .int .u8 x
theorem Bx.ofOwn {w : World} {base g n cap : Nat} {e : TypeId} {xs : List Value} (h : w.ownsRow base e 1 (.slice (some ⟨g, 0, none⟩) n cap) n xs) : Bx w g xs := by
  refine ⟨(h.lt g (by simp [Value.ownBlock])).2, fun i v hv => ⟨?_, h.frozenAt i⟩⟩
  have hl : i < xs.length := by
    rcases Nat.lt_or_ge i xs.length with q | q
    · exact q
    · rw [List.getElem?_eq_none q] at hv; cases hv
  rw [h.cellAt i (by rw [← h.1]; exact hl), hv]
theorem append_bytes (w : World) (A : Option Addr) (n cap : Nat) (xs : List Int) (hn : n ≤ 100000000) (h : BY w A n cap xs) (ty : TypeId) :
    ∃ g' c' w', (Builtin.append_ #[44, 44] ty #[.slice (some ⟨w.heap.size, 0, none⟩) 0 0, .slice A n cap]).run Try.prog (w.alloc (.cells #[] 5)) = .ok (.slice (some ⟨g', 0, none⟩) n c') w' ∧
      w.heap.size ≤ g' ∧ n ≤ c' ∧ c' ≤ maxLen ∧ Bx w' g' (bytesV xs) ∧ Below w.heap.size w w' := by
  obtain ⟨i0, hi, hz0, hz1, hz2⟩ := info_parts infoU8a
  have hown : (w.alloc (.cells #[] 5)).ownsRow w.heap.size 5 1 (.slice (some ⟨w.heap.size, 0, none⟩) 0 0) 0 [] := World.ownsRow_lit w #[] 0 (Nat.le_refl _) (by unfold maxLen; omega) rfl
  have hb0 := below_alloc w (.cells #[] 5)
  cases A with
  | none =>
    have hn0 : n = 0 := by
      rcases Nat.eq_zero_or_pos n with q | q
      · exact q
      · obtain ⟨b, o, e, _⟩ := h.2.2.2.2 q; cases e
    subst hn0
    have hx : xs = [] := List.eq_nil_of_length_eq_zero h.1
    subst hx
    refine ⟨w.heap.size, 0, w.alloc (.cells #[] 5), ?_, Nat.le_refl _, Nat.le_refl _, by unfold maxLen; omega, Bx.ofOwn hown, hb0⟩
    simp [Builtin.append_, run_underlying Try.underlying44, sizeOf, typeInfo, hi, Builtin.lenOf, Builtin.firstCells, storeCells]
  | some ad =>
    have hc : ∀ j u, (bytesV xs)[j]? = some u → (w.alloc (.cells #[] 5)).cell? (ad.add j) = some u := by
      intro j u hu
      have hl : j < n := by
        rcases Nat.lt_or_ge j n with q | q
        · exact q
        · rw [List.getElem?_eq_none (by simp [bytesV, h.1]; exact q)] at hu; cases hu
      obtain ⟨b, o, e, hlt, hcell⟩ := (h.below hb0).2.2.2.2 (by omega)
      cases e
      have e2 : (⟨b, o, none⟩ : Addr).add j = ⟨b, o + j, none⟩ := by unfold Addr.add; split <;> simp_all
      rw [e2, hcell j hl, ← hu]
      have hl' : j < xs.length := by rw [h.1]; exact hl
      simp [bytesV, List.getD_eq_getElem?_getD, hl']
    obtain ⟨v', w', hr, ho, hg, hnil⟩ := run_append_own (P := Try.prog) (w.alloc (.cells #[] 5)) w.heap.size 44 ty 5 i0 (.int .u8 0) 1 1 Try.underlying44 hi hz0 hz1 hz2 rfl (by omega)
      _ 0 [] hown ad n cap (bytesV xs) (by simp [bytesV, h.1]) hc (fun u hu => by simp only [bytesV, List.mem_map] at hu; obtain ⟨_, _, rfl⟩ := hu; rfl) (by unfold maxLen; omega) (by omega) (by simp)
    simp only [Nat.zero_add, List.nil_append] at ho
    have hB := hb0.grown hg (by simp) (fun g e => by simp [Value.ownBlock] at e; omega)
    rcases ho.2 with ⟨e1, _⟩ | ⟨g', c', cur, e1, hbg, _, h1, h2, _⟩
    · exact absurd (hnil.1 e1).1 (by simp)
    · subst e1
      exact ⟨g', c', w', hr, hbg, h1, h2, Bx.ofOwn ho, hB⟩
theorem BY.ofBytes {w : World} {g c : Nat} {xs : List Int} (hc : xs.length ≤ c) (hm : c ≤ maxLen) (hx : ∀ x ∈ xs, 0 ≤ x ∧ x ≤ 255) (h : Bx w g (bytesV xs)) : BY w (some ⟨g, 0, none⟩) xs.length c xs := by
  refine ⟨rfl, hc, hm, hx, fun _ => ⟨g, 0, rfl, h.1, fun i hi => ?_⟩⟩
  have hv : (bytesV xs)[i]? = some (.int .u8 (xs.getD i 0)) := by simp [bytesV, hi, List.getD_eq_getElem?_getD]
  have := (h.2 i _ hv).1
  rw [Nat.zero_add, this]

end Go.Proofs.Ytehkccogbgjcaaa
