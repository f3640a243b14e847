/-
Contract of package img's New: bytes of its own, all noughts. No statement is proved here.
-/
import Derived.Test.YtfhjdghhgojbkaaImg1
import Derived.Laws.MakeOwn
import Derived.RegionTactic
import Derived.Deep.QuietTactic
import Derived.BigQuiet
import Derived.IntWalk
namespace Go.Proofs.Ytfhjdghhgojbkaa
open Go.RowKit

theorem infoU8 : (Try.prog.info? 5).map (fun i => (i.zero, i.size, i.bytes)) = some (some (.int .u8 0), 1, 1) := by kernel_rfl
def noughts (n : Nat) : List Value := List.replicate n (.int .u8 0)
theorem run_make_bytes {m : Int} {n : Nat} (hm : m = (n : Int)) (hn : n ≤ 100000000) (w : World) :
    (Instr.makeSlice 38 (.int .i64 m) (.int .i64 m)).run Try.prog w = .ok (.slice (some ⟨w.heap.size, 0, none⟩) n n) (w.alloc (.cells (noughts n).toArray 5)) := by
  subst hm
  obtain ⟨i0, hi, hz0, hz1, hz2⟩ := info_parts infoU8
  have hr := run_make (P := Try.prog) w 38 5 i0 (.int .u8 0) Try.underlying38 hi hz0 .i64 .i64 n n (by omega) (by omega) (by rw [hz2]; omega) (by omega)
  simp only [Int.toNat_natCast] at hr
  rw [hr, hz1]
  have e : madeCells (Value.int .u8 0).cells (n * 1) = (noughts n).toArray := by
    apply Array.ext'
    rw [show (Value.int .u8 0).cells = #[Value.int .u8 0] from rfl, toList_madeCells_one]
    simp [noughts]
  rw [e]
theorem BY.ofNoughts {w : World} {g n : Nat} (hn : n ≤ 100000000) (h : Bx w g (noughts n)) : BY w (some ⟨g, 0, none⟩) n n (List.replicate n 0) := by
  refine ⟨List.length_replicate, Nat.le_refl _, by unfold maxLen; omega, fun x hx => ?_, fun _ => ⟨g, 0, rfl, h.1, fun i hi => ?_⟩⟩
  · rw [List.eq_of_mem_replicate hx]; omega
  · have hv : (noughts n)[i]? = some (.int .u8 0) := by simp [noughts, hi]
    have := (h.2 i _ hv).1
    rw [Nat.zero_add, this]
    simp [List.getD_eq_getElem?_getD, hi]

/-- an image of noughts in a block of the call's own -/
def NewPost (w : World) (x y c : Int) (n : Nat) (e : Ending) (w' : World) : Prop :=
  ∃ g, e = .returned (.tuple #[.agg #[.int .i64 x, .int .i64 y, .int .i64 c, .slice (some ⟨g, 0, none⟩) n n], .int .i64 0]) ∧ w.heap.size ≤ g ∧ Bx w' g (noughts n) ∧ Below w.heap.size w w'

set_option maxHeartbeats 1000000 in
theorem New_bad (x y c : Int) (w : World) (h0 : fitsZ x y c ≠ 0) :
    Calls Try.prog 37 #[.int .i64 x, .int .i64 y, .int .i64 c] w (Says w (.tuple #[.agg #[.int .i64 0, .int .i64 0, .int .i64 0, .slice none 0 0], .int .i64 (fitsZ x y c)])) := by
  have HS := size_any x y c
  obtain ⟨z, hz⟩ : ∃ z, fitsZ x y c = z := ⟨_, rfl⟩
  rw [hz] at h0 ⊢
  simp only [hz] at HS
  have b1 : (z != 0) = true := by simpa using h0
  clear hz h0
  have HK := hide (below_alloc w)
  go_enter Try.func37, Try.ntmps37
  go_wp2_with fail
  refine (HS _).mono ?_
  rintro e w1 ⟨rfl, rfl⟩
  go_wp2_with fail
  refine bodyPost_ret (v := .tuple #[.agg #[.int .i64 0, .int .i64 0, .int .i64 0, .slice none 0 0], .int .i64 z]) (by simp [results, Try.results37, go_sem]) rfl ⟨rfl, ?_⟩
  exact HK.out _

set_option maxHeartbeats 1000000 in
theorem New_ok (x y c : Int) (w : World) (h0 : fitsZ x y c = 0) (n : Nat) (hn : x * y * c = (n : Int)) :
    Calls Try.prog 37 #[.int .i64 x, .int .i64 y, .int .i64 c] w (NewPost w x y c n) := by
  have HS := size_any x y c
  rw [h0] at HS
  obtain ⟨hc, ⟨x1, x2⟩, ⟨y1, y2⟩, p1, p2⟩ := fits_zero h0
  have w1 : wrap64 (x * y) = x * y := IntWalk.wrap64_in _ (by omega)
  have w2 : wrap64 (x * y * c) = (n : Int) := by
    rw [← hn]
    apply IntWalk.wrap64_in
    rcases hc with rfl | rfl | rfl <;> omega
  have hn2 : n ≤ 100000000 := by rcases hc with rfl | rfl | rfl <;> omega
  have hmk := fun (w : World) => run_make_bytes (m := (n : Int)) rfl hn2 w
  clear h0 hc hn x1 x2 y1 y2 p1 p2
  have HK := hide (below_alloc w)
  go_enter Try.func37, Try.ntmps37
  go_wp2_with fail
  refine (HS _).mono ?_
  rintro e w1 ⟨rfl, rfl⟩
  go_wp2_with fail
  refine bodyPost_ret (v := .tuple #[.agg #[.int .i64 x, .int .i64 y, .int .i64 c, .slice (some ⟨w.heap.size + 1, 0, none⟩) n n], .int .i64 0]) (by simp [results, Try.results37, go_sem]) rfl ⟨w.heap.size + 1, rfl, by omega, ?_, ?_⟩
  · exact Bx.at (noughts n) _ (by simp)
  · exact below_alloc2 w _ _

end Go.Proofs.Ytfhjdghhgojbkaa
