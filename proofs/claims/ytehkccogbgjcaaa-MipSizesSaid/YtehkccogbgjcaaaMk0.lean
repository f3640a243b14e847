/-
Making bytes: noughts in a block of one's own. No statement is proved here.
-/
import Derived.Test.YtehkccogbgjcaaaImg0
import Derived.Test.YtehkccogbgjcaaaRows
import Derived.Test.YtehkccogbgjcaaaNum
import Derived.Laws.MakeOwn
import Derived.RegionTactic
import Derived.Deep.QuietTactic
import Derived.BigQuiet
import Derived.IntWalk
namespace Go.Proofs.Ytehkccogbgjcaaa
open Go.RowKit

theorem infoU8 : (Try.prog.info? 5).map (fun i => (i.zero, i.size, i.bytes)) = some (some (.int .u8 0), 1, 1) := by kernel_rfl
def noughts (n : Nat) : List Value := List.replicate n (.int .u8 0)
theorem run_make_bytes {m : Int} {n : Nat} (hm : m = (n : Int)) (hn : n ≤ 100000000) (w : World) :
    (Instr.makeSlice 44 (.int .i64 m) (.int .i64 m)).run Try.prog w = .ok (.slice (some ⟨w.heap.size, 0, none⟩) n n) (w.alloc (.cells (noughts n).toArray 5)) := by
  subst hm
  obtain ⟨i0, hi, hz0, hz1, hz2⟩ := info_parts infoU8
  have hr := run_make (P := Try.prog) w 44 5 i0 (.int .u8 0) Try.underlying44 hi hz0 .i64 .i64 n n (by omega) (by omega) (by rw [hz2]; omega) (by omega)
  simp only [Int.toNat_natCast] at hr
  rw [hr, hz1]
  have e : madeCells (Value.int .u8 0).cells (n * 1) = (noughts n).toArray := by
    apply Array.ext'
    rw [show (Value.int .u8 0).cells = #[Value.int .u8 0] from rfl, toList_madeCells_one]
    simp [noughts]
  rw [e]
theorem BY.ofNoughts {w : World} {g n : Nat} (hn : n ≤ 100000000) (h : Bx w g (noughts n)) : BY w (some ⟨g, 0, none⟩) n n (List.replicate n 0) := by
  refine ⟨List.length_replicate, Nat.le_refl _, by unfold maxLen; omega, fun x hx => ?_, fun _ => ⟨g, 0, rfl, h.1, fun i hi => ?_⟩⟩
  · rw [List.eq_of_mem_replicate hx]; omega
  · have hv : (noughts n)[i]? = some (.int .u8 0) := by simp [noughts, hi]
    have := (h.2 i _ hv).1
    rw [Nat.zero_add, this]
    simp [List.getD_eq_getElem?_getD, hi]

end Go.Proofs.Ytehkccogbgjcaaa
