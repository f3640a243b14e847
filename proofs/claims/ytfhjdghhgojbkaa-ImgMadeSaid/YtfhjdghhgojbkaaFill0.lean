/-
Contract of a brush of package img. No statement is proved here.
-/
import Derived.Test.YtfhjdghhgojbkaaApp1
import Derived.Test.YtfhjdghhgojbkaaNew0
import Derived.Test.YtfhjdghhgojbkaaDiff0
import Derived.Deep.RegionHeld3
namespace Go.Proofs.Ytfhjdghhgojbkaa
open Go.RowKit

/-- a block of bytes, known whole -/
def RowAt (w : World) (g : Nat) (l : List Value) : Prop := w.heap[g]? = some (.cells l.toArray 5 (0, 0))
theorem RowAt.grown {w w' : World} {g : Nat} {l : List Value} {row : Option Nat} (h : RowAt w g l) (hg : w.grownBy w' row) (hne : some g ≠ row) : RowAt w' g l := by
  have hlt : g < w.heap.size := by
    rcases Nat.lt_or_ge g w.heap.size with q | q
    · exact q
    · unfold RowAt at h; rw [Array.getElem?_eq_none q] at h; cases h
  exact (hg.block g hlt hne).trans h
theorem RowAt.lt {w : World} {g : Nat} {l : List Value} (h : RowAt w g l) : g < w.heap.size := by
  rcases Nat.lt_or_ge g w.heap.size with q | q
  · exact q
  · unfold RowAt at h; rw [Array.getElem?_eq_none q] at h; cases h
theorem RowAt.bx {w : World} {g : Nat} {l : List Value} (h : RowAt w g l) : Bx w g l := by
  refine ⟨h.lt, fun i v hv => ⟨?_, frozen_of_row w g i l.toArray 5 h⟩⟩
  rw [cell_of_row w g i l.toArray 5 (0, 0) h]
  simpa using hv
theorem grownBy_trans {a b c : World} {row : Option Nat} (h : a.grownBy b row) (k : b.grownBy c row) : a.grownBy c row :=
  ⟨k.os.trans h.os, k.tape.trans h.tape, k.output.trans h.output, Nat.le_trans h.size k.size, fun i hi hr => (k.block i (Nat.lt_of_lt_of_le hi h.size) hr).trans (h.block i hi hr)⟩
theorem grownBy_drew {a b : World} {row : Option Nat} (h : a.grownBy b row) : a.grownBy b.drew row := ⟨h.os, h.tape, h.output, h.size, h.block⟩
theorem grownBy_row (w : World) (g : Nat) (cs : Array Value) : w.grownBy (w.setRow g cs) (some g) :=
  ⟨rfl, rfl, rfl, by simp [World.setRow], fun k _ hk => setRow_other w g k cs (fun e => hk (by rw [e]))⟩
/-- copy in a region that draws its order, by what its run tells -/
theorem step_copy_run {P : Program} {ops : Array Oper} {o : Oper} {a : Act} {w : World} {K : Act → World → Prop} {Q : Exit → Act → World → Prop} {E : Prop} (hgd : o.guard = none) (s x : Operand) (t t' : TypeId)
    (ho : o.op = .call { callee := .builtin .copy, args := #[s, x], argTypes := #[t, t'] }) (u v : Value) (hs : a.eval s = u) (hx : a.eval x = v) {r : Value} {w' : World} (hr : (Builtin.copy_ #[t, t'] o.type #[u, v]).run P w = .ok r w')
    (h : K (a.put o.dst r) w') : if Region.wanted o (yielded ops a.tmps) = true then Oper.wp P o a w K Q else E := by
  have hw : Region.wanted o (yielded ops a.tmps) = true := by simp [Region.wanted, hgd]
  rw [if_pos hw]
  unfold Oper.wp
  simp [execOp, ho, resolve, invoke, builtin, hs, hx, hr, Result.andThen]
  exact h

set_option maxHeartbeats 2000000 in
theorem Paint_any (g at_ n : Nat) (bb o m cap : Nat) (cs : List Int) (cur : List Value) (w : World) (hH : RowAt w g cur) (hl : cur.length = n) (hfit : at_ + m ≤ n) (hm : 1 ≤ m) (h : BY w (some ⟨bb, o, none⟩) m cap cs) :
    Calls Try.prog 55 #[.agg #[.slice (some ⟨g, 0, none⟩) n n, .slice (some ⟨bb, o, none⟩) m cap], .int .i64 at_] w fun e w' => e = .returned (.tuple #[]) ∧ w.grownBy w' (some g) ∧ RowAt w' g (cur.take at_ ++ bytesV cs ++ cur.drop (at_ + m)) := by
  have B0 := Bx.at (w := w) (g := w.heap.size) [.slice (some ⟨g, 0, none⟩) n n, .slice (some ⟨bb, o, none⟩) m cap] 70 rfl
  have e0 : [Value.slice (some ⟨g, 0, none⟩) n n, .slice (some ⟨bb, o, none⟩) m cap].toArray = #[Value.slice (some ⟨g, 0, none⟩) n n, .slice (some ⟨bb, o, none⟩) m cap] := rfl
  rw [e0] at B0
  have G0 := World.grownBy_alloc w (.cells #[Value.slice (some ⟨g, 0, none⟩) n n, .slice (some ⟨bb, o, none⟩) m cap] 70) (some g)
  have H1 : RowAt (w.alloc (.cells #[Value.slice (some ⟨g, 0, none⟩) n n, .slice (some ⟨bb, o, none⟩) m cap] 70)) g cur := (Below.heap_alloc w _ g hH.lt).trans hH
  have Y1 := h.below (below_alloc w (.cells #[Value.slice (some ⟨g, 0, none⟩) n n, .slice (some ⟨bb, o, none⟩) m cap] 70))
  obtain ⟨_, c0, c1, _, _⟩ := B0.two
  have hcl : (bytesV cs).length = m := by simp [bytesV, h.1]
  have hlt := hH.lt
  obtain ⟨b', o', eA, _, hcc⟩ := Y1.2.2.2.2 (by omega)
  cases eA
  have hsrc : ∀ j v, (bytesV cs)[j]? = some v → (w.alloc (.cells #[Value.slice (some ⟨g, 0, none⟩) n n, .slice (some ⟨bb, o, none⟩) m cap] 70)).drew.cell? ((⟨bb, o, none⟩ : Addr).add j) = some v := by
    intro j v hv
    have hj : j < m := by
      rcases Nat.lt_or_ge j m with q | q
      · exact q
      · rw [List.getElem?_eq_none (by omega)] at hv; cases hv
    have e2 : (⟨bb, o, none⟩ : Addr).add j = ⟨bb, o + j, none⟩ := by unfold Addr.add; split <;> simp_all
    rw [e2]
    refine (hcc j hj).trans ?_
    rw [← hv]
    have hj' : j < cs.length := by rw [h.1]; exact hj
    simp [bytesV, List.getD_eq_getElem?_getD, hj']
  have hrun := run_copy_row (P := Try.prog) (w.alloc (.cells #[Value.slice (some ⟨g, 0, none⟩) n n, .slice (some ⟨bb, o, none⟩) m cap] 70)).drew 38 38 3 5 g at_ (n - at_) (n - at_) ⟨bb, o, none⟩ m cap cur.toArray 5 (bytesV cs) Try.underlying38 (by kernel_rfl) H1 (by rw [hcl]; exact (Nat.min_eq_left (by omega)).symm) hsrc (by simp [hcl]; omega) (fun u hu => by simp only [bytesV, List.mem_map] at hu; obtain ⟨_, _, rfl⟩ := hu; rfl)
  rw [hcl] at hrun
  have HR := hide hrun
  have HG := hide G0
  have HH := hide H1
  have HF := hide (show w.grownBy ((w.alloc (.cells #[Value.slice (some ⟨g, 0, none⟩) n n, .slice (some ⟨bb, o, none⟩) m cap] 70)).drew.setRow g (cur.take at_ ++ bytesV cs ++ cur.drop (at_ + m)).toArray) (some g) from grownBy_trans (grownBy_drew HG.out) (grownBy_row _ _ _))
  have HT := hide (show RowAt ((w.alloc (.cells #[Value.slice (some ⟨g, 0, none⟩) n n, .slice (some ⟨bb, o, none⟩) m cap] 70)).drew.setRow g (cur.take at_ ++ bytesV cs ++ cur.drop (at_ + m)).toArray) g (cur.take at_ ++ bytesV cs ++ cur.drop (at_ + m)) from setRow_heap _ g _ _ _ _ HH.out)
  have KS2 := hide (fun (u : Array Value) => (⟨(Bx.grown (B0.drew) (grownBy_row _ g u) (fun e => by injection e with e; omega)).two.2.1, (Bx.grown (B0.drew) (grownBy_row _ g u) (fun e => by injection e with e; omega)).two.2.2.1⟩ : ((w.alloc (.cells #[Value.slice (some ⟨g, 0, none⟩) n n, .slice (some ⟨bb, o, none⟩) m cap] 70)).drew.setRow g u).cell? ⟨w.heap.size, 0, none⟩ = some (.slice (some ⟨g, 0, none⟩) n n) ∧ ((w.alloc (.cells #[Value.slice (some ⟨g, 0, none⟩) n n, .slice (some ⟨bb, o, none⟩) m cap] 70)).drew.setRow g u).cell? ⟨w.heap.size, 1, none⟩ = some (.slice (some ⟨bb, o, none⟩) m cap)))
  have i1 : ¬ n = at_ := by omega
  have i2 : (0 : Int) ≤ (at_ : Int) := by omega
  have i3 : (at_ : Int) ≤ (n : Int) := by omega
  clear hcc hsrc hrun G0 H1 Y1 B0 h hH hm hfit
  go_enter Try.func55, Try.ntmps55
  go_wp2_with fail
  go_region_held3 (fun w' => w'.cell? ⟨w.heap.size, 0, none⟩ = some (.slice (some ⟨g, 0, none⟩) n n) ∧ w'.cell? ⟨w.heap.size, 1, none⟩ = some (.slice (some ⟨bb, o, none⟩) m cap))
    (first | exact KS2.out _ | go_keep | fail)
    (first
      | (refine step_copy_run rfl _ _ _ _ rfl (.slice (some ⟨g, at_, none⟩) (n - at_) (n - at_)) (.slice (some ⟨bb, o, none⟩) m cap) rfl rfl HR.out ?_)
      | fail)
  go_wp2_with fail
  refine bodyPost_end (v := .tuple #[]) (by simp [results, Try.results55]) rfl ?_
  exact ⟨rfl, HF.out, HT.out⟩

end Go.Proofs.Ytfhjdghhgojbkaa
