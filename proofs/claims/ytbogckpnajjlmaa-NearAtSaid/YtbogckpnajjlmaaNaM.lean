/-
Several texts in one: Mk0, RowAt, AppM, Len0, In18, Far, Down, Nr0, NAl, Na1, Na2, Na3, Na4, Na6, Na7, Same14, Na8. No statement is proved here.
-/
import Derived.Test.YtbogckpnajjlmaaImg0
import Derived.Test.YtbogckpnajjlmaaRows
import Derived.Test.YtbogckpnajjlmaaNum
import Derived.Laws.MakeOwn
import Derived.RegionTactic
import Derived.Deep.QuietTactic
import Derived.BigQuiet
import Derived.IntWalk
import Derived.Test.YtbogckpnajjlmaaApp1
import Derived.Test.YtbogckpnajjlmaaDiff0
import Derived.Deep.RegionHeld3
import Derived.Test.YtbogckpnajjlmaaKit
import Derived.Test.YtbogckpnajjlmaaInts
import Derived.Test.YtbogckpnajjlmaaQuoF
import Derived.Test.YtbogckpnajjlmaaBp5
import Derived.Shelf.Bytes.SlEqualAll
namespace Go.Proofs.Ytbogckpnajjlmaa

section
open Go.RowKit

theorem infoU8 : (Try.prog.info? 5).map (fun i => (i.zero, i.size, i.bytes)) = some (some (.int .u8 0), 1, 1) := by kernel_rfl
def noughts (n : Nat) : List Value := List.replicate n (.int .u8 0)
theorem run_make_bytes {m : Int} {n : Nat} (hm : m = (n : Int)) (hn : n ≤ 100000000) (w : World) :
    (Instr.makeSlice 22 (.int .i64 m) (.int .i64 m)).run Try.prog w = .ok (.slice (some ⟨w.heap.size, 0, none⟩) n n) (w.alloc (.cells (noughts n).toArray 5)) := by
  subst hm
  obtain ⟨i0, hi, hz0, hz1, hz2⟩ := info_parts infoU8
  have hr := run_make (P := Try.prog) w 22 5 i0 (.int .u8 0) Try.underlying22 hi hz0 .i64 .i64 n n (by omega) (by omega) (by rw [hz2]; omega) (by omega)
  simp only [Int.toNat_natCast] at hr
  rw [hr, hz1]
  have e : madeCells (Value.int .u8 0).cells (n * 1) = (noughts n).toArray := by
    apply Array.ext'
    rw [show (Value.int .u8 0).cells = #[Value.int .u8 0] from rfl, toList_madeCells_one]
    simp [noughts]
  rw [e]
theorem BY.ofNoughts {w : World} {g n : Nat} (hn : n ≤ 100000000) (h : Bx w g (noughts n)) : BY w (some ⟨g, 0, none⟩) n n (List.replicate n 0) := by
  refine ⟨List.length_replicate, Nat.le_refl _, by unfold maxLen; omega, fun x hx => ?_, fun _ => ⟨g, 0, rfl, h.1, fun i hi => ?_⟩⟩
  · rw [List.eq_of_mem_replicate hx]; omega
  · have hv : (noughts n)[i]? = some (.int .u8 0) := by simp [noughts, hi]
    have := (h.2 i _ hv).1
    rw [Nat.zero_add, this]
    simp [List.getD_eq_getElem?_getD, hi]
end

section
open Go.RowKit

/-- a block of bytes, known whole -/
def RowAt (w : World) (g : Nat) (l : List Value) : Prop := w.heap[g]? = some (.cells l.toArray 5 (0, 0))
theorem RowAt.grown {w w' : World} {g : Nat} {l : List Value} {row : Option Nat} (h : RowAt w g l) (hg : w.grownBy w' row) (hne : some g ≠ row) : RowAt w' g l := by
  have hlt : g < w.heap.size := by
    rcases Nat.lt_or_ge g w.heap.size with q | q
    · exact q
    · unfold RowAt at h; rw [Array.getElem?_eq_none q] at h; cases h
  exact (hg.block g hlt hne).trans h
theorem RowAt.lt {w : World} {g : Nat} {l : List Value} (h : RowAt w g l) : g < w.heap.size := by
  rcases Nat.lt_or_ge g w.heap.size with q | q
  · exact q
  · unfold RowAt at h; rw [Array.getElem?_eq_none q] at h; cases h
theorem RowAt.bx {w : World} {g : Nat} {l : List Value} (h : RowAt w g l) : Bx w g l := by
  refine ⟨h.lt, fun i v hv => ⟨?_, frozen_of_row w g i l.toArray 5 h⟩⟩
  rw [cell_of_row w g i l.toArray 5 (0, 0) h]
  simpa using hv
theorem grownBy_trans {a b c : World} {row : Option Nat} (h : a.grownBy b row) (k : b.grownBy c row) : a.grownBy c row :=
  ⟨k.os.trans h.os, k.tape.trans h.tape, k.output.trans h.output, Nat.le_trans h.size k.size, fun i hi hr => (k.block i (Nat.lt_of_lt_of_le hi h.size) hr).trans (h.block i hi hr)⟩
theorem grownBy_drew {a b : World} {row : Option Nat} (h : a.grownBy b row) : a.grownBy b.drew row := ⟨h.os, h.tape, h.output, h.size, h.block⟩
theorem grownBy_row (w : World) (g : Nat) (cs : Array Value) : w.grownBy (w.setRow g cs) (some g) :=
  ⟨rfl, rfl, rfl, by simp [World.setRow], fun k _ hk => setRow_other w g k cs (fun e => hk (by rw [e]))⟩
/-- copy in a region that draws its order, by what its run tells -/
theorem step_copy_run {P : Program} {ops : Array Oper} {o : Oper} {a : Act} {w : World} {K : Act → World → Prop} {Q : Exit → Act → World → Prop} {E : Prop} (hgd : o.guard = none) (s x : Operand) (t t' : TypeId)
    (ho : o.op = .call { callee := .builtin .copy, args := #[s, x], argTypes := #[t, t'] }) (u v : Value) (hs : a.eval s = u) (hx : a.eval x = v) {r : Value} {w' : World} (hr : (Builtin.copy_ #[t, t'] o.type #[u, v]).run P w = .ok r w')
    (h : K (a.put o.dst r) w') : if Region.wanted o (yielded ops a.tmps) = true then Oper.wp P o a w K Q else E := by
  have hw : Region.wanted o (yielded ops a.tmps) = true := by simp [Region.wanted, hgd]
  rw [if_pos hw]
  unfold Oper.wp
  simp [execOp, ho, resolve, invoke, builtin, hs, hx, hr, Result.andThen]
  exact h
end

section
open Go.RowKit

theorem Bx.under {B g : Nat} {w w' : World} {l : List Value} (h : Bx w g l) (hb : Below B w w') (hg : g < B) : Bx w' g l :=
  ⟨Nat.lt_of_lt_of_le h.1 hb.size, fun i v hv => ⟨(hb.cell (p := ⟨g, i, none⟩) hg).trans (h.2 i v hv).1, (hb.frozen (p := ⟨g, i, none⟩) hg).trans (h.2 i v hv).2⟩⟩
theorem bytesV_app (xs ys : List Int) : bytesV (xs ++ ys) = bytesV xs ++ bytesV ys := by simp [bytesV]
/-- append(own, b...) -/
theorem append_more (w : World) (base : Nat) (v : Value) (m : Nat) (zs : List Int) (hown : w.ownsRow base 5 1 v m (bytesV zs)) (hbase : base ≤ w.heap.size) (A : Option Addr) (n cap : Nat) (xs : List Int) (h : BY w A n cap xs) (hs : m + n ≤ 100000000) (ty : TypeId) :
    ∃ v' w', (Builtin.append_ #[22, 22] ty #[v, .slice A n cap]).run Try.prog w = .ok v' w' ∧ w'.ownsRow base 5 1 v' (m + n) (bytesV (zs ++ xs)) ∧ Below base w w' := by
  obtain ⟨i0, hi, hz0, hz1, hz2⟩ := info_parts infoU8a
  cases A with
  | none =>
    have hn0 : n = 0 := by
      rcases Nat.eq_zero_or_pos n with q | q
      · exact q
      · obtain ⟨b, o, e, _⟩ := h.2.2.2.2 q; cases e
    subst hn0
    have hx : xs = [] := List.eq_nil_of_length_eq_zero h.1
    subst hx
    refine ⟨v, w, ?_, by simpa using hown, Below.refl _ _⟩
    rcases hown.2 with ⟨rfl, rfl⟩ | ⟨g, cp, cur, rfl, _, _, hnc, _⟩
    · simp [Builtin.append_, run_underlying Try.underlying22, sizeOf, typeInfo, hi, Builtin.lenOf, Builtin.firstCells]
    · simp [Builtin.append_, run_underlying Try.underlying22, sizeOf, typeInfo, hi, Builtin.lenOf, Builtin.firstCells, hnc, storeCells]
  | some ad =>
    have hc : ∀ j u, (bytesV xs)[j]? = some u → w.cell? (ad.add j) = some u := by
      intro j u hu
      have hl : j < n := by
        rcases Nat.lt_or_ge j n with q | q
        · exact q
        · rw [List.getElem?_eq_none (by simp [bytesV, h.1]; exact q)] at hu; cases hu
      obtain ⟨b, o, e, hlt, hcell⟩ := h.2.2.2.2 (by omega)
      cases e
      have e2 : (⟨b, o, none⟩ : Addr).add j = ⟨b, o + j, none⟩ := by unfold Addr.add; split <;> simp_all
      rw [e2, hcell j hl, ← hu]
      have hl' : j < xs.length := by rw [h.1]; exact hl
      simp [bytesV, List.getD_eq_getElem?_getD, hl']
    obtain ⟨v', w', hr, ho, hg, _⟩ := run_append_own (P := Try.prog) w base 22 ty 5 i0 (.int .u8 0) 1 1 Try.underlying22 hi hz0 hz1 hz2 rfl (by omega)
      v m (bytesV zs) hown ad n cap (bytesV xs) (by simp [bytesV, h.1]) hc (fun u hu => by simp only [bytesV, List.mem_map] at hu; obtain ⟨_, _, rfl⟩ := hu; rfl) (by unfold maxLen; omega) (by omega) hbase
    rw [← bytesV_app] at ho
    exact ⟨v', w', hr, ho, (Below.refl base w).grown hg hbase (fun k hk => (hown.lt k hk).1)⟩
end

section
/-- how far a place is seen from the middle, one way -/
def asideZ (p d m f : Int) : Int := Int.fdiv (Int.fdiv (65536 * p) d - m) f

theorem fdiv_mono {p d p' d' : Int} (hd : 0 < d) (hd' : 0 < d') (h : p * d' ≤ p' * d) : Int.fdiv p d ≤ Int.fdiv p' d' := by
  rw [Int.fdiv_eq_ediv_of_nonneg _ (by omega), Int.fdiv_eq_ediv_of_nonneg _ (by omega)]
  rw [Int.le_ediv_iff_mul_le hd']
  have h1 : p / d * d ≤ p := Int.ediv_mul_le _ (by omega)
  have h2 : p / d * d * d' ≤ p * d' := Int.mul_le_mul_of_nonneg_right h1 (by omega)
  have h3 : p / d * d' * d ≤ p' * d := by
    have : p / d * d' * d = p / d * d * d' := by rw [Int.mul_assoc, Int.mul_comm d' d, ← Int.mul_assoc]
    omega
  exact Int.le_of_mul_le_mul_right h3 hd

theorem aside_mono {p d p' d' m f : Int} (hd : 0 < d) (hd' : 0 < d') (hf : 0 < f) (h : p * d' ≤ p' * d) : asideZ p d m f ≤ asideZ p' d' m f := by
  have h1 : Int.fdiv (65536 * p) d ≤ Int.fdiv (65536 * p') d' := fdiv_mono hd hd' (by rw [Int.mul_assoc, Int.mul_assoc]; omega)
  exact fdiv_mono hf hf (Int.mul_le_mul_of_nonneg_right (by omega) (by omega))

/-- a quotient by a number above 0 is no further from 0 than what is divided, or -1 -/
theorem fdiv_bound {p d B : Int} (hd : 1 ≤ d) (h : -B ≤ p ∧ p ≤ B) : -B ≤ Int.fdiv p d ∧ Int.fdiv p d ≤ B := by
  rw [Int.fdiv_eq_ediv_of_nonneg _ (by omega)]
  constructor
  · rw [Int.le_ediv_iff_mul_le (by omega)]
    rcases Int.lt_or_le B 0 with hB | hB
    · omega
    · have : B * 1 ≤ B * d := Int.mul_le_mul_of_nonneg_left hd hB
      have e : -B * d = -(B * d) := Int.neg_mul _ _
      omega
  · rcases Int.lt_or_le p 0 with hp | hp
    · have : p / d < 0 := Int.ediv_neg_of_neg_of_pos hp (by omega)
      omega
    · have : p / d ≤ p := Int.ediv_le_self _ hp
      omega

/-- whether a number is no further from 0 than another one -/
def InZ (x m : Int) : Prop := -m ≤ x ∧ x ≤ m
instance (x m : Int) : Decidable (InZ x m) := by unfold InZ; infer_instance
/-- whether a place may be asked for -/
def RightZ (x y d : Int) : Prop := InZ x 1048576 ∧ InZ y 1048576 ∧ 1 ≤ d ∧ d ≤ 16
instance (x y d : Int) : Decidable (RightZ x y d) := by unfold RightZ; infer_instance

/-- what is wrong with a lens's numbers, or with a size, each by itself -/
def lensC (cs : List Int) (w h : Int) : Int :=
  if cs.length ≠ 7 then 12
  else if ¬ InZ (cs.getD 0 0) 2147483648 ∨ ¬ InZ (cs.getD 1 0) 2147483648 ∨ cs.getD 2 0 < 1 ∨ 32768 < cs.getD 2 0 ∨ ¬ InZ (cs.getD 3 0) 65536 ∨ ¬ InZ (cs.getD 4 0) 65536 ∨ ¬ InZ (cs.getD 5 0) 65536 ∨ ¬ InZ (cs.getD 6 0) 65536 then 11
  else if w < 1 ∨ 32768 < w ∨ h < 1 ∨ 32768 < h then 30 else 0
/-- whether a place is seen by a right lens -/
def seenZ (cs : List Int) (x y d : Int) : Prop := InZ (asideZ x d (cs.getD 0 0) (cs.getD 2 0)) 262144 ∧ InZ (asideZ y d (cs.getD 1 0) (cs.getD 2 0)) 262144
instance (cs : List Int) (x y d : Int) : Decidable (seenZ cs x y d) := by unfold seenZ; infer_instance
/-- what is wrong with a lens -/
def lensE (cs : List Int) (w h : Int) : Int :=
  if lensC cs w h ≠ 0 then lensC cs w h else if seenZ cs (-1) (-1) 2 ∧ seenZ cs (2 * w - 1) (2 * h - 1) 2 then 0 else 11

theorem lensC_zero {cs : List Int} {w h : Int} (k : lensC cs w h = 0) : cs.length = 7 ∧ InZ (cs.getD 0 0) 2147483648 ∧ InZ (cs.getD 1 0) 2147483648 ∧ (1 ≤ cs.getD 2 0 ∧ cs.getD 2 0 ≤ 32768) ∧
    InZ (cs.getD 3 0) 65536 ∧ InZ (cs.getD 4 0) 65536 ∧ InZ (cs.getD 5 0) 65536 ∧ InZ (cs.getD 6 0) 65536 ∧ 1 ≤ w ∧ w ≤ 32768 ∧ 1 ≤ h ∧ h ≤ 32768 := by
  unfold lensC at k
  by_cases h1 : cs.length = 7
  · rw [if_neg (by simpa using h1)] at k
    split at k
    · omega
    · rename_i h2
      split at k
      · omega
      · rename_i h3
        simp only [not_or, Decidable.not_not] at h2
        exact ⟨h1, h2.1, h2.2.1, by omega, h2.2.2.2.2.1, h2.2.2.2.2.2.1, h2.2.2.2.2.2.2.1, h2.2.2.2.2.2.2.2, by omega, by omega, by omega, by omega⟩
  · rw [if_pos h1] at k; omega

/-- each place within the image, and half a pixel around it, is seen -/
theorem lens_in {cs : List Int} {w h x y d : Int} (k : lensE cs w h = 0) (hd : 1 ≤ d) (x1 : -d ≤ 2 * x) (x2 : 2 * x ≤ (2 * w - 1) * d) (y1 : -d ≤ 2 * y) (y2 : 2 * y ≤ (2 * h - 1) * d) : seenZ cs x y d := by
  unfold lensE at k
  by_cases h0 : lensC cs w h = 0
  · rw [if_neg (by simpa using h0)] at k
    obtain ⟨_, _, _, hf, _⟩ := lensC_zero h0
    split at k
    · rename_i hs
      obtain ⟨⟨s1, s2⟩, s3, s4⟩ := hs
      have a1 := aside_mono (p := -1) (d := 2) (p' := x) (d' := d) (m := cs.getD 0 0) (f := cs.getD 2 0) (by omega) (by omega) (by omega) (by omega)
      have a2 := aside_mono (p := x) (d := d) (p' := 2 * w - 1) (d' := 2) (m := cs.getD 0 0) (f := cs.getD 2 0) (by omega) (by omega) (by omega) (by omega)
      have a3 := aside_mono (p := -1) (d := 2) (p' := y) (d' := d) (m := cs.getD 1 0) (f := cs.getD 2 0) (by omega) (by omega) (by omega) (by omega)
      have a4 := aside_mono (p := y) (d := d) (p' := 2 * h - 1) (d' := 2) (m := cs.getD 1 0) (f := cs.getD 2 0) (by omega) (by omega) (by omega) (by omega)
      unfold InZ at s1 s2 s3 s4
      unfold seenZ InZ
      omega
    · omega
  · rw [if_pos h0] at k
    exact absurd k h0
end

section
open Go.RowKit

theorem In_any (x m : Int) (w : World) (hm : 0 ≤ m ∧ m ≤ 9223372036854775807) : Calls Try.prog 86 #[.int .i64 x, .int .i64 m] w fun e w' => e = .returned (.bool (decide (InZ x m))) ∧ w = w' := by
  have hw : wrap64 (-m) = -m := IntWalk.wrap64_in _ (by omega)
  obtain ⟨g, hg⟩ : ∃ g, decide (InZ x m) = g := ⟨_, rfl⟩
  rw [hg]
  clear hm
  by_cases a1 : -m ≤ x
  · have hf : decide (x ≤ m) = g := by rw [← hg]; exact decide_eq_decide.2 ⟨fun h => ⟨a1, h⟩, fun h => h.2⟩
    clear hg
    go_enter Try.func86, Try.ntmps86
    go_wp2_with fail
    go_ret
    exact ⟨rfl, rfl⟩
  · obtain rfl : false = g := by rw [← hg]; exact (decide_eq_false fun h => a1 h.1).symm
    clear hg
    go_enter Try.func86, Try.ntmps86
    go_wp2_with fail
    go_ret
    exact ⟨rfl, rfl⟩
end

section
open Go.RowKit

/-- whether both numbers of a place may be -/
def RightN (u v : Int) : Prop := InZ u 70368744177664 ∧ InZ v 70368744177664
instance (u v : Int) : Decidable (RightN u v) := by unfold RightN; infer_instance
theorem rightN_and (u v : Int) : decide (RightN u v) = (decide (InZ u 70368744177664) && decide (InZ v 70368744177664)) := by
  rw [← Bool.decide_and]; rfl
theorem FRight_any (u v : Int) (w : World) : Calls Try.prog 60 #[.int .i64 u, .int .i64 v] w fun e w' => e = .returned (.bool (decide (RightN u v))) ∧ w = w' := by
  have H1 := hide (In_any u 70368744177664 w (by decide))
  have H2 := hide (In_any v 70368744177664 w (by decide))
  rw [rightN_and]
  obtain ⟨b1, h1⟩ : ∃ b, decide (InZ u 70368744177664) = b := ⟨_, rfl⟩
  obtain ⟨b2, h2⟩ : ∃ b, decide (InZ v 70368744177664) = b := ⟨_, rfl⟩
  rw [h1] at H1 ⊢
  rw [h2] at H2 ⊢
  clear h1 h2
  cases b1
  · go_enter Try.func60, Try.ntmps60
    go_wp2_with fail
    refine H1.out.mono ?_
    rintro e w1 ⟨rfl, rfl⟩
    go_wp2_with fail
    go_ret
    exact ⟨rfl, rfl⟩
  · go_enter Try.func60, Try.ntmps60
    go_wp2_with fail
    refine H1.out.mono ?_
    rintro e w1 ⟨rfl, rfl⟩
    go_wp2_with fail
    refine H2.out.mono ?_
    rintro e w1 ⟨rfl, rfl⟩
    go_wp2_with fail
    go_ret
    exact ⟨rfl, rfl⟩
end

section
open Go.RowKit

theorem Down_some (a b q : Int) (w : World) (hb : ¬ b = 0) (hq : IntKind.i64.wrap (Int.tdiv a b) = q)
    (z : Int) (s3 : Bool) (e3 : decide (b < 0) = s3) (f1 : a.tmod b = 0 → q = z) (f2 : a.tmod b ≠ 0 → decide (a < 0) = s3 → q = z) (f3 : a.tmod b ≠ 0 → decide (a < 0) ≠ s3 → wrap64 (q - 1) = z) :
    Calls Try.prog 70 #[.int .i64 a, .int .i64 b] w fun e w' => e = .returned (.int .i64 z) ∧ w = w' := by
  have F1 := hide f1
  have F2 := hide f2
  have F3 := hide f3
  clear f1 f2 f3
  go_enter Try.func70, Try.ntmps70
  go_wp2_with fail
  · refine bodyPost_ret (v := .int .i64 q) (by simp [results, Try.results70, go_sem]) rfl ⟨by rw [F1.out (by assumption)], rfl⟩
  · rename_i k1 k2
    refine bodyPost_ret (v := .int .i64 (wrap64 (q - 1))) (by simp [results, Try.results70, go_sem]) rfl ⟨by rw [F3.out k1 (by simpa using k2.2)], rfl⟩
  · rename_i k1 k2
    refine bodyPost_ret (v := .int .i64 q) (by simp [results, Try.results70, go_sem]) rfl ⟨by rw [F2.out k1 (same_or k1 k2)], rfl⟩
/-- the reference's quotient of any two int64, rounded down -/
theorem Down_any (a b : Int) (w : World) (ha : isI64 a) (hb1 : isI64 b) (hb : b ≠ 0) (hr : ¬ (a = -9223372036854775808 ∧ b = -1)) :
    Calls Try.prog 70 #[.int .i64 a, .int .i64 b] w fun e w' => e = .returned (.int .i64 (Int.fdiv a b)) ∧ w = w' := by
  unfold isI64 at ha hb1
  have h1 := Int.mul_tdiv_add_tmod a b
  have h2 := tmod_small (a := a) hb
  have h3 : (a.tdiv b).natAbs = a.natAbs / b.natAbs := Int.natAbs_tdiv a b
  have hq : -9223372036854775808 ≤ a.tdiv b ∧ a.tdiv b ≤ 9223372036854775807 ∧ (a.tmod b ≠ 0 → -4611686018427387904 ≤ a.tdiv b) := by
    by_cases b1 : b.natAbs = 1
    · rcases (show b = 1 ∨ b = -1 by omega) with rfl | rfl
      · rw [Int.tdiv_one]
        refine ⟨by omega, by omega, fun h => ?_⟩
        omega
      · rw [Int.tdiv_neg, Int.tdiv_one]
        refine ⟨by omega, by omega, fun h => ?_⟩
        omega
    · have h5 : a.natAbs / b.natAbs ≤ a.natAbs / 2 := Nat.div_le_div_left (by omega) (by omega)
      omega
  have hs : a.tmod b ≠ 0 → decide (a < 0) = decide (a.tmod b < 0) := by
    intro k
    rcases Int.lt_or_le a 0 with q | q
    · have := Int.tmod_nonneg b (show 0 ≤ -a by omega)
      rw [Int.neg_tmod] at this
      rw [decide_eq_true q, decide_eq_true (by omega)]
    · have := Int.tmod_nonneg b q
      rw [decide_eq_false (by omega), decide_eq_false (by omega)]
  obtain ⟨f1, f2, f3⟩ := floor_t (a := a) (b := b) hb
  refine Down_some a b (a.tdiv b) w hb (IntWalk.i64_in _ (by omega)) (Int.fdiv a b) _ rfl f1 (fun k e => f2 k (by rw [← hs k, e])) fun k e => ?_
  rw [← f3 k (by rw [← hs k]; exact e), IntWalk.wrap64_in _ (by have := hq.2.2 k; omega)]
end

section
open Go.RowKit

theorem NIn_any (x m : Int) (w : World) (hm : 0 ≤ m ∧ m ≤ 9223372036854775807) : Calls Try.prog 84 #[.int .i64 x, .int .i64 m] w fun e w' => e = .returned (.bool (decide (InZ x m))) ∧ w = w' := by
  have hw : wrap64 (-m) = -m := IntWalk.wrap64_in _ (by omega)
  obtain ⟨g, hg⟩ : ∃ g, decide (InZ x m) = g := ⟨_, rfl⟩
  rw [hg]
  clear hm
  by_cases a1 : -m ≤ x
  · have hf : decide (x ≤ m) = g := by rw [← hg]; exact decide_eq_decide.2 ⟨fun h => ⟨a1, h⟩, fun h => h.2⟩
    clear hg
    go_enter Try.func84, Try.ntmps84
    go_wp2_with fail
    go_ret
    exact ⟨rfl, rfl⟩
  · obtain rfl : false = g := by rw [← hg]; exact (decide_eq_false fun h => a1 h.1).symm
    clear hg
    go_enter Try.func84, Try.ntmps84
    go_wp2_with fail
    go_ret
    exact ⟨rfl, rfl⟩
theorem NRight_any (u v : Int) (w : World) : Calls Try.prog 57 #[.int .i64 u, .int .i64 v] w fun e w' => e = .returned (.bool (decide (RightN u v))) ∧ w = w' := by
  have H1 := hide (NIn_any u 70368744177664 w (by decide))
  have H2 := hide (NIn_any v 70368744177664 w (by decide))
  rw [rightN_and]
  obtain ⟨b1, h1⟩ : ∃ b, decide (InZ u 70368744177664) = b := ⟨_, rfl⟩
  obtain ⟨b2, h2⟩ : ∃ b, decide (InZ v 70368744177664) = b := ⟨_, rfl⟩
  rw [h1] at H1 ⊢
  rw [h2] at H2 ⊢
  clear h1 h2
  cases b1
  · go_enter Try.func57, Try.ntmps57
    go_wp2_with fail
    refine H1.out.mono ?_
    rintro e w1 ⟨rfl, rfl⟩
    go_wp2_with fail
    go_ret
    exact ⟨rfl, rfl⟩
  · go_enter Try.func57, Try.ntmps57
    go_wp2_with fail
    refine H1.out.mono ?_
    rintro e w1 ⟨rfl, rfl⟩
    go_wp2_with fail
    refine H2.out.mono ?_
    rintro e w1 ⟨rfl, rfl⟩
    go_wp2_with fail
    go_ret
    exact ⟨rfl, rfl⟩

/-- the column that is nearest -/
def nearC (u : Int) : Int := Int.fdiv (u + 32768) 65536
theorem NNearest_any (u : Int) (w : World) (hu : InZ u 70368744177664) : Calls Try.prog 85 #[.int .i64 u] w fun e w' => e = .returned (.int .i64 (nearC u)) ∧ w = w' := by
  unfold InZ at hu
  have e1 : wrap64 (u + 32768) = u + 32768 := IntWalk.wrap64_in _ (by omega)
  have e2 : (u + 32768) / 65536 = nearC u := (Int.fdiv_eq_ediv_of_nonneg _ (by decide)).symm
  obtain ⟨z, hz⟩ : ∃ z, nearC u = z := ⟨_, rfl⟩
  rw [hz] at e2 ⊢
  obtain ⟨y, hy⟩ : ∃ y, u + 32768 = y := ⟨_, rfl⟩
  rw [hy] at e1 e2
  clear hz hu
  go_enter Try.func85, Try.ntmps85
  go_wp2_with fail
  go_ret
  exact ⟨by simp_all, rfl⟩
theorem RNearest_any (u : Int) (w : World) (hu : InZ u 70368744177664) : Calls Try.prog 63 #[.int .i64 u] w fun e w' => e = .returned (.int .i64 (nearC u)) ∧ w = w' := by
  unfold InZ at hu
  have e1 : wrap64 (u + 32768) = u + 32768 := IntWalk.wrap64_in _ (by omega)
  have H := hide (Down_any (u + 32768) 65536 w ⟨by omega, by omega⟩ ⟨by decide, by decide⟩ (by decide) (by omega))
  have e2 : Int.fdiv (u + 32768) 65536 = nearC u := rfl
  obtain ⟨z, hz⟩ : ∃ z, nearC u = z := ⟨_, rfl⟩
  rw [e2, hz] at H
  rw [hz]
  obtain ⟨y, hy⟩ : ∃ y, u + 32768 = y := ⟨_, rfl⟩
  rw [hy] at e1 H
  clear hz hu e2
  go_enter Try.func63, Try.ntmps63
  go_wp2_with fail
  refine H.out.mono ?_
  rintro e w1 ⟨rfl, rfl⟩
  go_wp2_with fail
  go_ret
  exact ⟨rfl, rfl⟩
theorem NReach_no (lo hi : Int) (w : World) (h : ¬ (lo ≤ hi ∧ RightN lo hi)) : Calls Try.prog 61 #[.int .i64 lo, .int .i64 hi] w fun e w' => e = .returned (.tuple #[.int .i64 0, .int .i64 0]) ∧ w = w' := by
  have H1 := hide (NRight_any lo hi w)
  by_cases k : hi < lo
  · clear h H1
    go_enter Try.func61, Try.ntmps61
    go_wp2_with fail
    refine bodyPost_ret (v := .tuple #[.int .i64 0, .int .i64 0]) (by simp [results, Try.results61, go_sem]) rfl ⟨rfl, rfl⟩
  · rw [decide_eq_false fun q => h ⟨by omega, q⟩] at H1
    clear h
    go_enter Try.func61, Try.ntmps61
    go_wp2_with fail
    refine H1.out.mono ?_
    rintro e w1 ⟨rfl, rfl⟩
    go_wp2_with fail
    refine bodyPost_ret (v := .tuple #[.int .i64 0, .int .i64 0]) (by simp [results, Try.results61, go_sem]) rfl ⟨rfl, rfl⟩
theorem NReach_yes (lo hi : Int) (w : World) (h : lo ≤ hi) (hr : RightN lo hi) : Calls Try.prog 61 #[.int .i64 lo, .int .i64 hi] w fun e w' => e = .returned (.tuple #[.int .i64 (nearC lo), .int .i64 (nearC hi)]) ∧ w = w' := by
  have H1 := hide (NRight_any lo hi w)
  have H2 := hide (NNearest_any lo w hr.1)
  have H3 := hide (NNearest_any hi w hr.2)
  rw [decide_eq_true hr] at H1
  obtain ⟨x, hx⟩ : ∃ z, nearC lo = z := ⟨_, rfl⟩
  obtain ⟨y, hy⟩ : ∃ z, nearC hi = z := ⟨_, rfl⟩
  rw [hx] at H2 ⊢
  rw [hy] at H3 ⊢
  have k : ¬ hi < lo := by omega
  clear h hr hx hy
  go_enter Try.func61, Try.ntmps61
  go_wp2_with fail
  refine H1.out.mono ?_
  rintro e w1 ⟨rfl, rfl⟩
  go_wp2_with fail
  refine H2.out.mono ?_
  rintro e w1 ⟨rfl, rfl⟩
  go_wp2_with fail
  refine H3.out.mono ?_
  rintro e w1 ⟨rfl, rfl⟩
  go_wp2_with fail
  refine bodyPost_ret (v := .tuple #[.int .i64 x, .int .i64 y]) (by simp [results, Try.results61, go_sem]) rfl ⟨rfl, rfl⟩
end

section
open Go.RowKit

theorem Nalive_any (w : World) : Calls Try.prog 30 #[] w fun e w' => e = .returned (.bool true) ∧ w = w' := by
  have H := hide (NReach_yes 0 65536 w (by decide) (by decide))
  go_enter Try.func30, Try.ntmps30
  go_wp2_with fail
  refine H.out.mono ?_
  rintro e w1 ⟨rfl, rfl⟩
  go_wp2_with fail
  go_ret
  exact ⟨rfl, rfl⟩
end

section
open Go.RowKit

/-- a pixel's bytes -/
def PixV (w : World) (L : Nat) (ls : List Int) (e : Ending) (w' : World) : Prop := ∃ A' c', e = .returned (.slice A' L c') ∧ BY w' A' L c' ls ∧ Below w.heap.size w w'
set_option maxHeartbeats 2000000 in
theorem NPic_any (x y c : Int) (A : Option Addr) (n cap : Nat) (xs : List Int) (mode k0 k1 k2 k3 px py : Int) (w : World) (h : bcheckZ x y c n mode = 0) (hx : isI64 px) (hy : isI64 py) (hB : BY w A n cap xs) (hk : ∀ z ∈ [k0, k1, k2, k3], 0 ≤ z ∧ z ≤ 255) :
    Calls Try.prog 59 #[.agg #[.int .i64 x, .int .i64 y, .int .i64 c, .slice A n cap, .int .i64 mode, .int .u8 k0, .int .u8 k1, .int .u8 k2, .int .u8 k3], .int .i64 px, .int .i64 py] w (PixV w c.toNat (pixL x y c xs mode [k0, k1, k2, k3] px py)) := by
  have H0 := hide (below_alloc w (.cells #[.int .i64 x, .int .i64 y, .int .i64 c, .slice A n cap, .int .i64 mode, .int .u8 k0, .int .u8 k1, .int .u8 k2, .int .u8 k3] 90))
  have HP := hide (fun w (h' : BY w A n cap xs) => BPixel_by x y c A n cap xs mode k0 k1 k2 k3 px py w h hx hy h' hk)
  have HV := hide (fun w' (hb : Below w.heap.size w w') => hB.below hb)
  clear h hx hy hB hk
  go_enter Try.func59, Try.ntmps59
  go_wp2_with fail
  refine (HP.out _ (HV.out _ H0.out)).mono ?_
  rintro e w1 ⟨A', c', rfl, hY, hb⟩
  have L1 := hide (H0.out.trans (hb.mono H0.out.size))
  have HY := hide hY
  clear hY hb
  go_wp2_with fail
  go_ret
  exact ⟨A', c', rfl, HY.out, L1.out⟩
end

section
open Go.RowKit

theorem rowAt_new (w : World) (l : List Value) : RowAt (w.alloc (.cells l.toArray 5)) w.heap.size l := by
  show (w.heap.push (.cells l.toArray 5 (0, 0)))[w.heap.size]? = _
  simp
theorem RowAt.below {w w' : World} {g : Nat} {l : List Value} (h : RowAt w g l) (hb : Below w.heap.size w w') : RowAt w' g l := (hb.block g h.lt).trans h
theorem bytesV_one (cs : List Int) : ∀ v ∈ bytesV cs, v.oneCell' = true := by
  intro v hv
  simp [bytesV] at hv
  obtain ⟨x, _, rfl⟩ := hv
  rfl
/-- copy of all bytes over a block of as many -/
theorem run_copy_all (w : World) (g C : Nat) (A : Option Addr) (cap : Nat) (ls : List Int) (l : List Value) (hl : l.length = C) (hC : 1 ≤ C) (hR : RowAt w g l) (h : BY w A C cap ls) :
    (Builtin.copy_ #[22, 22] 3 #[.slice (some ⟨g, 0, none⟩) C C, .slice A C cap]).run Try.prog w = .ok (.int .i64 C) (w.setRow g (bytesV ls).toArray) := by
  obtain ⟨b, o, rfl, _, hc⟩ := h.2.2.2.2 (by omega)
  have hcl : (bytesV ls).length = C := by simp [bytesV, h.1]
  have hsrc : ∀ j v, (bytesV ls)[j]? = some v → w.cell? ((⟨b, o, none⟩ : Addr).add j) = some v := by
    intro j v hv
    have hj : j < C := by
      rcases Nat.lt_or_ge j C with q | q
      · exact q
      · rw [List.getElem?_eq_none (by omega)] at hv; cases hv
    have e2 : (⟨b, o, none⟩ : Addr).add j = ⟨b, o + j, none⟩ := by unfold Addr.add; split <;> simp_all
    rw [e2]
    refine (hc j hj).trans ?_
    rw [← hv]
    have hj' : j < ls.length := by rw [h.1]; exact hj
    simp [bytesV, List.getD_eq_getElem?_getD, hj']
  have hrun := run_copy_row (P := Try.prog) w 22 22 3 5 g 0 C C ⟨b, o, none⟩ C cap l.toArray 5 (bytesV ls) Try.underlying22 (by kernel_rfl) hR (by rw [hcl]; exact (Nat.min_eq_left (by omega)).symm) hsrc (by simp; omega) (bytesV_one ls)
  rw [hcl] at hrun
  have e : List.take 0 l.toArray.toList ++ bytesV ls ++ List.drop (0 + C) l.toArray.toList = bytesV ls := by
    simp [List.drop_of_length_le (show l.length ≤ C by omega)]
  rw [hrun, e]
  rfl
theorem BY.row {w : World} {g : Nat} {ls : List Int} {C : Nat} (hl : ls.length = C) (hC : C ≤ 100000000) (hb : ∀ x ∈ ls, 0 ≤ x ∧ x ≤ 255) (h : RowAt w g (bytesV ls)) : BY w (some ⟨g, 0, none⟩) C C ls := by
  refine ⟨hl, Nat.le_refl _, by unfold maxLen; omega, hb, fun _ => ⟨g, 0, rfl, h.lt, fun i hi => ?_⟩⟩
  have hv : (bytesV ls)[i]? = some (.int .u8 (ls.getD i 0)) := by simp [bytesV, List.getD_eq_getElem?_getD, List.getElem?_eq_getElem (show i < ls.length by omega)]
  rw [Nat.zero_add]
  exact (h.bx.2 i _ hv).1

set_option maxRecDepth 100000 in
set_option maxHeartbeats 2000000 in
theorem NBy_yes (recv : Value) (C : Nat) (u v : Int) (ls : List Int) (w : World) (hC : 1 ≤ C ∧ C ≤ 4) (hr : RightN u v) (hg : ∀ w', Below w.heap.size w w' → Calls Try.prog 59 #[recv, .int .i64 (nearC u), .int .i64 (nearC v)] w' (PixV w' C ls)) :
    Calls Try.prog 58 #[.func (.func 59) #[recv] #[], .int .i64 C, .int .i64 u, .int .i64 v] w (PixV w C ls) := by
  have H1 := hide (NRight_any u v w)
  rw [decide_eq_true hr] at H1
  have H2 := hide (fun w => NNearest_any u w hr.1)
  have H3 := hide (fun w => NNearest_any v w hr.2)
  obtain ⟨p, hp⟩ : ∃ p, nearC u = p := ⟨_, rfl⟩
  obtain ⟨q, hq⟩ : ∃ q, nearC v = q := ⟨_, rfl⟩
  rw [hp] at H2
  rw [hq] at H3
  rw [hp, hq] at hg
  have HG := hide (hg _ (below_alloc w (.cells (noughts C).toArray 5)))
  have HB := hide (below_alloc w (.cells (noughts C).toArray 5))
  have HR := hide (rowAt_new w (noughts C))
  have hmk := fun (w : World) => run_make_bytes (m := (C : Int)) rfl (show C ≤ 100000000 by omega) w
  have c1 : ¬ (C : Int) < 1 := by omega
  have c2 : (0 : Int) ≤ (C : Int) := by omega
  have HC := hide hC
  have hnil : ∀ w : World, (binOp .eql 88 (.func (.func 59) #[recv] #[]) .nilFunc).run Try.prog w = Result.ok (.bool false) w := fun w => by kernel_rfl
  clear hr hp hq hg hC
  go_enter Try.func58, Try.ntmps58
  go_wp2_with fail
  refine H1.out.mono ?_
  rintro e w1 ⟨rfl, rfl⟩
  go_wp2_with fail
  refine (H2.out _).mono ?_
  rintro e w1 ⟨rfl, rfl⟩
  go_wp2_with fail
  refine (H3.out _).mono ?_
  rintro e w1 ⟨rfl, rfl⟩
  go_wp2_with fail
  refine HG.out.mono ?_
  rintro e w2 ⟨A', c', rfl, hY, hb⟩
  have hcp := run_copy_all w2 w.heap.size C A' c' ls (noughts C) (by simp [noughts]) HC.out.1 (HR.out.below hb) hY
  have L2 := hide (below_setRow (g := w.heap.size) ((HB.out).trans (hb.mono HB.out.size)) (Nat.le_refl _) (bytesV ls).toArray)
  have HY := hide (BY.row (w := w2.setRow w.heap.size (bytesV ls).toArray) (g := w.heap.size) hY.1 (by have := HC.out; omega) hY.2.2.2.1 (setRow_heap w2 w.heap.size _ _ _ _ (HR.out.below hb)))
  clear hY hb hmk
  go_wp2_with fail
  go_ret
  exact ⟨_, _, rfl, HY.out, L2.out⟩
end

section
open Go.RowKit

theorem nearC_i64 {u : Int} (h : InZ u 70368744177664) : isI64 (nearC u) := by
  unfold InZ at h
  unfold nearC isI64
  rw [Int.fdiv_eq_ediv_of_nonneg _ (by decide)]
  omega
/-- an image and a border, each in a box -/
def MbK (w : World) (x y c : Int) (A : Option Addr) (n cap : Nat) (mode k0 k1 k2 k3 : Int) (w' : World) : Prop :=
  Bx w' w.heap.size [.int .i64 x, .int .i64 y, .int .i64 c, .slice A n cap] ∧ Bx w' (w.heap.size + 1) [.int .i64 mode, .int .u8 k0, .int .u8 k1, .int .u8 k2, .int .u8 k3] ∧ Below w.heap.size w w'
theorem MbK.below {w w1 w2 : World} {x y c : Int} {A : Option Addr} {n cap : Nat} {mode k0 k1 k2 k3 : Int} (h : MbK w x y c A n cap mode k0 k1 k2 k3 w1) (hb : Below w1.heap.size w1 w2) : MbK w x y c A n cap mode k0 k1 k2 k3 w2 :=
  ⟨h.1.below hb, h.2.1.below hb, h.2.2.trans (hb.mono h.2.2.size)⟩
/-- why the pixel nearest to a place can't be told -/
def nearE (x y c n mode u v : Int) : Int := if bcheckZ x y c n mode ≠ 0 then bcheckZ x y c n mode else if RightN u v then 0 else 11
theorem nearE_zero {x y c n mode u v : Int} (h : nearE x y c n mode u v = 0) : bcheckZ x y c n mode = 0 ∧ RightN u v := by
  unfold nearE at h
  by_cases k : bcheckZ x y c n mode = 0
  · rw [if_neg (by simpa using k)] at h
    by_cases r : RightN u v
    · exact ⟨k, r⟩
    · rw [if_neg r] at h; omega
  · rw [if_pos k] at h; exact absurd h k
theorem nearE_ways {x y c n mode u v z : Int} (h : nearE x y c n mode u v = z) : (checkZ x y c n = z ∧ z ≠ 0) ∨ (checkZ x y c n = 0 ∧ bchkZ mode = z ∧ z = 10 ∧ ¬ (0 ≤ mode ∧ mode ≤ 3)) ∨ (checkZ x y c n = 0 ∧ bchkZ mode = 0 ∧ (0 ≤ mode ∧ mode ≤ 3) ∧ ((RightN u v ∧ z = 0) ∨ (¬ RightN u v ∧ z = 11))) := by
  unfold nearE bcheckZ at h
  by_cases k : checkZ x y c n = 0
  · rw [if_neg (show ¬ checkZ x y c n ≠ 0 by simpa using k)] at h
    by_cases m : 0 ≤ mode ∧ mode ≤ 3
    · have e : bchkZ mode = 0 := if_pos m
      rw [if_neg (by simpa using e)] at h
      refine .inr (.inr ⟨k, e, m, ?_⟩)
      by_cases r : RightN u v
      · rw [if_pos r] at h; exact .inl ⟨r, h.symm⟩
      · rw [if_neg r] at h; exact .inr ⟨r, h.symm⟩
    · have e : bchkZ mode = 10 := if_neg m
      rw [if_pos (by rw [e]; decide)] at h
      exact .inr (.inl ⟨k, h, by omega, m⟩)
  · rw [if_pos (show checkZ x y c n ≠ 0 from k), if_pos k] at h
    exact .inl ⟨h, by omega⟩
set_option maxRecDepth 100000 in
set_option maxHeartbeats 4000000 in
theorem NAt_no (x y c : Int) (A : Option Addr) (n cap : Nat) (mode k0 k1 k2 k3 u v z : Int) (w : World) (h : nearE x y c n mode u v = z) (hz : z ≠ 0) :
    Calls Try.prog 28 #[.agg #[.int .i64 x, .int .i64 y, .int .i64 c, .slice A n cap], .agg #[.int .i64 mode, .int .u8 k0, .int .u8 k1, .int .u8 k2, .int .u8 k3], .int .i64 u, .int .i64 v] w (Says w (.tuple #[.slice none 0 0, .int .i64 z])) := by
  have H0 := below_alloc2 w (.cells #[.int .i64 x, .int .i64 y, .int .i64 c, .slice A n cap] 24) (.cells #[.int .i64 mode, .int .u8 k0, .int .u8 k1, .int .u8 k2, .int .u8 k3] 41)
  have B0 := (Bx.at (w := w) (g := w.heap.size) [.int .i64 x, .int .i64 y, .int .i64 c, .slice A n cap] 24 rfl).alloc (.cells #[.int .i64 mode, .int .u8 k0, .int .u8 k1, .int .u8 k2, .int .u8 k3] 41)
  have B1 := Bx.at (w := w.alloc (.cells #[.int .i64 x, .int .i64 y, .int .i64 c, .slice A n cap] 24)) (g := w.heap.size + 1) [.int .i64 mode, .int .u8 k0, .int .u8 k1, .int .u8 k2, .int .u8 k3] 41 (by simp)
  have e0 : [Value.int .i64 mode, .int .u8 k0, .int .u8 k1, .int .u8 k2, .int .u8 k3].toArray = #[Value.int .i64 mode, .int .u8 k0, .int .u8 k1, .int .u8 k2, .int .u8 k3] := rfl
  have e1 : [Value.int .i64 x, .int .i64 y, .int .i64 c, .slice A n cap].toArray = #[Value.int .i64 x, .int .i64 y, .int .i64 c, .slice A n cap] := rfl
  rw [e1] at B0 B1
  rw [e0] at B1
  have HK := hide (show MbK w x y c A n cap mode k0 k1 k2 k3 _ from ⟨B0, B1, H0⟩)
  clear H0 B0 B1 e0 e1
  have HC := hide (fun w => Check_any x y c A n cap w)
  have HM := hide (fun w => BCheck_any mode k0 k1 k2 k3 w)
  have HR := hide (fun w => NRight_any u v w)
  obtain ⟨_, a0, a1, a2, a3, _, _, _, _⟩ := HK.out.1.four
  obtain ⟨_, g0, g1, g2, g3, g4⟩ := HK.out.2.1.five
  have z1 : (z != 0) = true := by simpa using hz
  rcases nearE_ways h with ⟨c0, _⟩ | ⟨c0, m0, rfl, _⟩ | ⟨c0, m0, _, r0⟩
  · rw [c0] at HC
    clear h hz c0
    go_enter Try.func28, Try.ntmps28
    go_wp2_with fail
    refine (HC.out _).mono ?_
    rintro e w1 ⟨rfl, hb⟩
    have K1 := hide (HK.out.below hb)
    clear hb a0 a1 a2 a3 g0 g1 g2 g3 g4
    obtain ⟨_, a0, a1, a2, a3, _, _, _, _⟩ := K1.out.1.four
    obtain ⟨_, g0, g1, g2, g3, g4⟩ := K1.out.2.1.five
    go_wp2_with fail
    refine bodyPost_ret (v := .tuple #[.slice none 0 0, .int .i64 z]) (by simp [results, Try.results28, go_sem]) rfl ⟨rfl, K1.out.2.2⟩
  · rw [c0] at HC
    rw [m0] at HM
    clear h hz c0 m0
    go_enter Try.func28, Try.ntmps28
    go_wp2_with fail
    refine (HC.out _).mono ?_
    rintro e w1 ⟨rfl, hb⟩
    have K1 := hide (HK.out.below hb)
    clear hb a0 a1 a2 a3 g0 g1 g2 g3 g4
    obtain ⟨_, a0, a1, a2, a3, _, _, _, _⟩ := K1.out.1.four
    obtain ⟨_, g0, g1, g2, g3, g4⟩ := K1.out.2.1.five
    go_wp2_with fail
    refine (HM.out _).mono ?_
    rintro e w1 ⟨rfl, hb⟩
    have K2 := hide (K1.out.below hb)
    clear hb a0 a1 a2 a3 g0 g1 g2 g3 g4
    obtain ⟨_, a0, a1, a2, a3, _, _, _, _⟩ := K2.out.1.four
    obtain ⟨_, g0, g1, g2, g3, g4⟩ := K2.out.2.1.five
    go_wp2_with fail
    refine bodyPost_ret (v := .tuple #[.slice none 0 0, .int .i64 10]) (by simp [results, Try.results28, go_sem]) rfl ⟨rfl, K2.out.2.2⟩
  · obtain ⟨r, rfl⟩ : ¬ RightN u v ∧ z = 11 := by
      rcases r0 with ⟨_, q⟩ | q
      · exact absurd q hz
      · exact q
    rw [c0] at HC
    rw [m0] at HM
    rw [decide_eq_false r] at HR
    clear h hz c0 m0 r0 r
    go_enter Try.func28, Try.ntmps28
    go_wp2_with fail
    refine (HC.out _).mono ?_
    rintro e w1 ⟨rfl, hb⟩
    have K1 := hide (HK.out.below hb)
    clear hb a0 a1 a2 a3 g0 g1 g2 g3 g4
    obtain ⟨_, a0, a1, a2, a3, _, _, _, _⟩ := K1.out.1.four
    obtain ⟨_, g0, g1, g2, g3, g4⟩ := K1.out.2.1.five
    go_wp2_with fail
    refine (HM.out _).mono ?_
    rintro e w1 ⟨rfl, hb⟩
    have K2 := hide (K1.out.below hb)
    clear hb a0 a1 a2 a3 g0 g1 g2 g3 g4
    obtain ⟨_, a0, a1, a2, a3, _, _, _, _⟩ := K2.out.1.four
    obtain ⟨_, g0, g1, g2, g3, g4⟩ := K2.out.2.1.five
    go_wp2_with fail
    refine (HR.out _).mono ?_
    rintro e w3 ⟨rfl, rfl⟩
    go_wp2_with fail
    refine bodyPost_ret (v := .tuple #[.slice none 0 0, .int .i64 11]) (by simp [results, Try.results28, go_sem]) rfl ⟨rfl, K2.out.2.2⟩

set_option maxRecDepth 100000 in
set_option maxHeartbeats 4000000 in
theorem NAt_yes (x y c : Int) (A : Option Addr) (n cap : Nat) (xs : List Int) (mode k0 k1 k2 k3 u v : Int) (w : World) (h : nearE x y c n mode u v = 0) (hB : BY w A n cap xs) (hk : ∀ z ∈ [k0, k1, k2, k3], 0 ≤ z ∧ z ≤ 255) :
    Calls Try.prog 28 #[.agg #[.int .i64 x, .int .i64 y, .int .i64 c, .slice A n cap], .agg #[.int .i64 mode, .int .u8 k0, .int .u8 k1, .int .u8 k2, .int .u8 k3], .int .i64 u, .int .i64 v] w (PixE w c.toNat (pixL x y c xs mode [k0, k1, k2, k3] (nearC u) (nearC v))) := by
  have H0 := below_alloc2 w (.cells #[.int .i64 x, .int .i64 y, .int .i64 c, .slice A n cap] 24) (.cells #[.int .i64 mode, .int .u8 k0, .int .u8 k1, .int .u8 k2, .int .u8 k3] 41)
  have B0 := (Bx.at (w := w) (g := w.heap.size) [.int .i64 x, .int .i64 y, .int .i64 c, .slice A n cap] 24 rfl).alloc (.cells #[.int .i64 mode, .int .u8 k0, .int .u8 k1, .int .u8 k2, .int .u8 k3] 41)
  have B1 := Bx.at (w := w.alloc (.cells #[.int .i64 x, .int .i64 y, .int .i64 c, .slice A n cap] 24)) (g := w.heap.size + 1) [.int .i64 mode, .int .u8 k0, .int .u8 k1, .int .u8 k2, .int .u8 k3] 41 (by simp)
  have e0 : [Value.int .i64 mode, .int .u8 k0, .int .u8 k1, .int .u8 k2, .int .u8 k3].toArray = #[Value.int .i64 mode, .int .u8 k0, .int .u8 k1, .int .u8 k2, .int .u8 k3] := rfl
  have e1 : [Value.int .i64 x, .int .i64 y, .int .i64 c, .slice A n cap].toArray = #[Value.int .i64 x, .int .i64 y, .int .i64 c, .slice A n cap] := rfl
  rw [e1] at B0 B1
  rw [e0] at B1
  have HK := hide (show MbK w x y c A n cap mode k0 k1 k2 k3 _ from ⟨B0, B1, H0⟩)
  clear H0 B0 B1 e0 e1
  have HC := hide (fun w => Check_any x y c A n cap w)
  have HM := hide (fun w => BCheck_any mode k0 k1 k2 k3 w)
  have HR := hide (fun w => NRight_any u v w)
  obtain ⟨_, a0, a1, a2, a3, _, _, _, _⟩ := HK.out.1.four
  obtain ⟨_, g0, g1, g2, g3, g4⟩ := HK.out.2.1.five
  obtain ⟨hb0, hr⟩ := nearE_zero h
  obtain ⟨hc, hm⟩ := bcheck_zero hb0
  rw [hc] at HC
  rw [show bchkZ mode = 0 from if_pos hm] at HM
  rw [decide_eq_true hr] at HR
  obtain ⟨C, hC⟩ : ∃ C : Nat, c = C := ⟨c.toNat, by have := (size_ok hc).2.2.2.2; omega⟩
  have hC4 : 1 ≤ C ∧ C ≤ 4 := by have := (size_ok hc).2.2.2.2; omega
  have hu : isI64 (nearC u) := nearC_i64 hr.1
  have hv : isI64 (nearC v) := nearC_i64 hr.2
  have HP := hide (fun w (h' : BY w A n cap xs) => NBy_yes (.agg #[.int .i64 x, .int .i64 y, .int .i64 c, .slice A n cap, .int .i64 mode, .int .u8 k0, .int .u8 k1, .int .u8 k2, .int .u8 k3]) C u v (pixL x y c xs mode [k0, k1, k2, k3] (nearC u) (nearC v)) w hC4 hr (fun w' hb => by
    have := NPic_any x y c A n cap xs mode k0 k1 k2 k3 (nearC u) (nearC v) w' hb0 hu hv (h'.below hb) hk
    rw [show c.toNat = C by omega] at this
    exact this))
  have HV := hide (fun w' (hb : Below w.heap.size w w') => hB.below hb)
  have hmf : ∀ (fn : Fn) (first cap : Array Value) (w : World), (Instr.makeFunc fn first cap).run Try.prog w = .ok (.func fn first cap) w := fun _ _ _ _ => rfl
  rw [show c.toNat = C by omega]
  generalize pixL x y c xs mode [k0, k1, k2, k3] (nearC u) (nearC v) = ls at *
  clear h hb0 hr hc hm hC4 hu hv hk hB
  subst hC
  go_enter Try.func28, Try.ntmps28
  go_wp2_with fail
  refine (HC.out _).mono ?_
  rintro e w1 ⟨rfl, hb⟩
  have K1 := hide (HK.out.below hb)
  clear hb a0 a1 a2 a3 g0 g1 g2 g3 g4
  obtain ⟨_, a0, a1, a2, a3, _, _, _, _⟩ := K1.out.1.four
  obtain ⟨_, g0, g1, g2, g3, g4⟩ := K1.out.2.1.five
  go_wp2_with fail
  refine (HM.out _).mono ?_
  rintro e w1 ⟨rfl, hb⟩
  have K2 := hide (K1.out.below hb)
  clear hb a0 a1 a2 a3 g0 g1 g2 g3 g4
  obtain ⟨_, a0, a1, a2, a3, _, _, _, _⟩ := K2.out.1.four
  obtain ⟨_, g0, g1, g2, g3, g4⟩ := K2.out.2.1.five
  go_wp2_with fail
  refine (HR.out _).mono ?_
  rintro e w3 ⟨rfl, rfl⟩
  go_wp2_with fail
  refine (HP.out _ (HV.out _ K2.out.2.2)).mono ?_
  rintro e w4 ⟨A', c', rfl, hY, hb⟩
  have K4 := hide (K2.out.below hb)
  have HY := hide hY
  clear hb hY a0 a1 a2 a3 g0 g1 g2 g3 g4
  go_wp2_with fail
  refine bodyPost_ret (v := .tuple #[.slice A' C c', .int .i64 0]) (by simp [results, Try.results28, go_sem]) rfl ?_
  exact ⟨A', c', rfl, HY.out, K4.out.2.2⟩

set_option maxHeartbeats 4000000 in
theorem RNCheck_any (x y c : Int) (A : Option Addr) (n cap : Nat) (mode k0 k1 k2 k3 u v : Int) (w : World) :
    Calls Try.prog 29 #[.agg #[.int .i64 x, .int .i64 y, .int .i64 c, .slice A n cap], .agg #[.int .i64 mode, .int .u8 k0, .int .u8 k1, .int .u8 k2, .int .u8 k3], .int .i64 u, .int .i64 v] w (Says w (.int .i64 (nearE x y c n mode u v))) := by
  have H0 := below_alloc2 w (.cells #[.int .i64 x, .int .i64 y, .int .i64 c, .slice A n cap] 24) (.cells #[.int .i64 mode, .int .u8 k0, .int .u8 k1, .int .u8 k2, .int .u8 k3] 41)
  have B0 := (Bx.at (w := w) (g := w.heap.size) [.int .i64 x, .int .i64 y, .int .i64 c, .slice A n cap] 24 rfl).alloc (.cells #[.int .i64 mode, .int .u8 k0, .int .u8 k1, .int .u8 k2, .int .u8 k3] 41)
  have B1 := Bx.at (w := w.alloc (.cells #[.int .i64 x, .int .i64 y, .int .i64 c, .slice A n cap] 24)) (g := w.heap.size + 1) [.int .i64 mode, .int .u8 k0, .int .u8 k1, .int .u8 k2, .int .u8 k3] 41 (by simp)
  have e0 : [Value.int .i64 mode, .int .u8 k0, .int .u8 k1, .int .u8 k2, .int .u8 k3].toArray = #[Value.int .i64 mode, .int .u8 k0, .int .u8 k1, .int .u8 k2, .int .u8 k3] := rfl
  have e1 : [Value.int .i64 x, .int .i64 y, .int .i64 c, .slice A n cap].toArray = #[Value.int .i64 x, .int .i64 y, .int .i64 c, .slice A n cap] := rfl
  rw [e1] at B0 B1
  rw [e0] at B1
  have HK := hide (show MbK w x y c A n cap mode k0 k1 k2 k3 _ from ⟨B0, B1, H0⟩)
  clear H0 B0 B1 e0 e1
  have HC := hide (fun w => RCheck_any x y c A n cap w)
  have HR := hide (fun w => FRight_any u v w)
  obtain ⟨_, a0, a1, a2, a3, _, _, _, _⟩ := HK.out.1.four
  obtain ⟨_, g0, g1, g2, g3, g4⟩ := HK.out.2.1.five
  obtain ⟨z, h⟩ : ∃ z, nearE x y c n mode u v = z := ⟨_, rfl⟩
  rw [h]
  rcases nearE_ways h with ⟨c0, hz⟩ | ⟨c0, _, z0, m0⟩ | ⟨c0, _, m0, r0⟩
  · rw [c0] at HC
    have z1 : (z != 0) = true := by simpa using hz
    clear h hz c0
    go_enter Try.func29, Try.ntmps29
    go_wp2_with fail
    refine (HC.out _).mono ?_
    rintro e w1 ⟨rfl, hb⟩
    have K1 := hide (HK.out.below hb)
    clear hb a0 a1 a2 a3 g0 g1 g2 g3 g4
    obtain ⟨_, a0, a1, a2, a3, _, _, _, _⟩ := K1.out.1.four
    obtain ⟨_, g0, g1, g2, g3, g4⟩ := K1.out.2.1.five
    go_wp2_with fail
    go_ret
    exact ⟨rfl, K1.out.2.2⟩
  · rw [c0] at HC
    subst z0
    clear h c0
    by_cases m1 : mode < 0
    · clear m0
      go_enter Try.func29, Try.ntmps29
      go_wp2_with fail
      refine (HC.out _).mono ?_
      rintro e w1 ⟨rfl, hb⟩
      have K1 := hide (HK.out.below hb)
      clear hb a0 a1 a2 a3 g0 g1 g2 g3 g4
      obtain ⟨_, a0, a1, a2, a3, _, _, _, _⟩ := K1.out.1.four
      obtain ⟨_, g0, g1, g2, g3, g4⟩ := K1.out.2.1.five
      go_wp2_with fail
      go_ret
      exact ⟨rfl, K1.out.2.2⟩
    · have m2 : 3 < mode := by omega
      clear m0
      go_enter Try.func29, Try.ntmps29
      go_wp2_with fail
      refine (HC.out _).mono ?_
      rintro e w1 ⟨rfl, hb⟩
      have K1 := hide (HK.out.below hb)
      clear hb a0 a1 a2 a3 g0 g1 g2 g3 g4
      obtain ⟨_, a0, a1, a2, a3, _, _, _, _⟩ := K1.out.1.four
      obtain ⟨_, g0, g1, g2, g3, g4⟩ := K1.out.2.1.five
      go_wp2_with fail
      go_ret
      exact ⟨rfl, K1.out.2.2⟩
  · rw [c0] at HC
    have m1 : ¬ mode < 0 := by omega
    have m2 : ¬ 3 < mode := by omega
    rcases r0 with ⟨r, rfl⟩ | ⟨r, rfl⟩
    · rw [decide_eq_true r] at HR
      clear h c0 m0 r
      go_enter Try.func29, Try.ntmps29
      go_wp2_with fail
      refine (HC.out _).mono ?_
      rintro e w1 ⟨rfl, hb⟩
      have K1 := hide (HK.out.below hb)
      clear hb a0 a1 a2 a3 g0 g1 g2 g3 g4
      obtain ⟨_, a0, a1, a2, a3, _, _, _, _⟩ := K1.out.1.four
      obtain ⟨_, g0, g1, g2, g3, g4⟩ := K1.out.2.1.five
      go_wp2_with fail
      refine (HR.out _).mono ?_
      rintro e w3 ⟨rfl, rfl⟩
      go_wp2_with fail
      go_ret
      exact ⟨rfl, K1.out.2.2⟩
    · rw [decide_eq_false r] at HR
      clear h c0 m0 r
      go_enter Try.func29, Try.ntmps29
      go_wp2_with fail
      refine (HC.out _).mono ?_
      rintro e w1 ⟨rfl, hb⟩
      have K1 := hide (HK.out.below hb)
      clear hb a0 a1 a2 a3 g0 g1 g2 g3 g4
      obtain ⟨_, a0, a1, a2, a3, _, _, _, _⟩ := K1.out.1.four
      obtain ⟨_, g0, g1, g2, g3, g4⟩ := K1.out.2.1.five
      go_wp2_with fail
      refine (HR.out _).mono ?_
      rintro e w3 ⟨rfl, rfl⟩
      go_wp2_with fail
      go_ret
      exact ⟨rfl, K1.out.2.2⟩
end

section
open Go.RowKit

theorem own_nil (w : World) (base : Nat) : w.ownsRow base 5 1 (.slice none 0 0) 0 (bytesV []) := ⟨rfl, .inl ⟨rfl, rfl⟩⟩
theorem own_at {w w1 : World} (hb : Below w.heap.size w w1) : w.heap.size ≤ w1.heap.size := hb.size
theorem MbK.under {w w1 w2 : World} {x y c : Int} {A : Option Addr} {n cap : Nat} {mode k0 k1 k2 k3 : Int} (h : MbK w x y c A n cap mode k0 k1 k2 k3 w1) (hb : Below (w.heap.size + 2) w1 w2) : MbK w x y c A n cap mode k0 k1 k2 k3 w2 :=
  ⟨h.1.under hb (by omega), h.2.1.under hb (by omega), h.2.2.trans (hb.mono (by omega))⟩
theorem MbK.size {w w1 : World} {x y c : Int} {A : Option Addr} {n cap : Nat} {mode k0 k1 k2 k3 : Int} (h : MbK w x y c A n cap mode k0 k1 k2 k3 w1) : w.heap.size + 2 ≤ w1.heap.size := h.2.1.1
theorem take_succ {ls : List Int} {q : Nat} (h : q < ls.length) : ls.take q ++ [ls.getD q 0] = ls.take (q + 1) := by
  rw [List.take_add_one, List.getD_eq_getElem?_getD, List.getElem?_eq_getElem h]
  rfl
theorem by_byte (w : World) (b : Int) (hb : 0 ≤ b ∧ b ≤ 255) (T : TypeId) : BY (w.alloc (.cells #[.int .u8 b] T)) (some ⟨w.heap.size, 0, none⟩) 1 1 [b] := by
  refine ⟨rfl, Nat.le_refl _, by unfold maxLen; omega, fun x hx => by simp at hx; omega, fun _ => ⟨w.heap.size, 0, rfl, by simp, fun i hi => ?_⟩⟩
  obtain rfl : i = 0 := by omega
  simp [World.cell?_alloc_new]
set_option maxRecDepth 100000 in
set_option maxHeartbeats 4000000 in
theorem RNPixel_any (x y c : Int) (A : Option Addr) (n cap : Nat) (xs : List Int) (mode k0 k1 k2 k3 u v : Int) (w : World) (h : bcheckZ x y c n mode = 0) (hu : isI64 u) (hv : isI64 v) (hB : BY w A n cap xs) (hk : ∀ z ∈ [k0, k1, k2, k3], 0 ≤ z ∧ z ≤ 255) :
    Calls Try.prog 62 #[.agg #[.int .i64 x, .int .i64 y, .int .i64 c, .slice A n cap], .agg #[.int .i64 mode, .int .u8 k0, .int .u8 k1, .int .u8 k2, .int .u8 k3], .int .i64 u, .int .i64 v] w (PixV w c.toNat (pixL x y c xs mode [k0, k1, k2, k3] u v)) := by
  have H0 := below_alloc2 w (.cells #[.int .i64 x, .int .i64 y, .int .i64 c, .slice A n cap] 24) (.cells #[.int .i64 mode, .int .u8 k0, .int .u8 k1, .int .u8 k2, .int .u8 k3] 41)
  have B0 := (Bx.at (w := w) (g := w.heap.size) [.int .i64 x, .int .i64 y, .int .i64 c, .slice A n cap] 24 rfl).alloc (.cells #[.int .i64 mode, .int .u8 k0, .int .u8 k1, .int .u8 k2, .int .u8 k3] 41)
  have B1 := Bx.at (w := w.alloc (.cells #[.int .i64 x, .int .i64 y, .int .i64 c, .slice A n cap] 24)) (g := w.heap.size + 1) [.int .i64 mode, .int .u8 k0, .int .u8 k1, .int .u8 k2, .int .u8 k3] 41 (by simp)
  have e0 : [Value.int .i64 mode, .int .u8 k0, .int .u8 k1, .int .u8 k2, .int .u8 k3].toArray = #[Value.int .i64 mode, .int .u8 k0, .int .u8 k1, .int .u8 k2, .int .u8 k3] := rfl
  have e1 : [Value.int .i64 x, .int .i64 y, .int .i64 c, .slice A n cap].toArray = #[Value.int .i64 x, .int .i64 y, .int .i64 c, .slice A n cap] := rfl
  rw [e1] at B0 B1
  rw [e0] at B1
  have HK := hide (show MbK w x y c A n cap mode k0 k1 k2 k3 _ from ⟨B0, B1, H0⟩)
  clear H0 B0 B1 e0 e1
  obtain ⟨_, a0, a1, a2, a3, _, _, _, _⟩ := HK.out.1.four
  obtain ⟨_, g0, g1, g2, g3, g4⟩ := HK.out.2.1.five
  obtain ⟨hc, hm⟩ := bcheck_zero h
  have HG := hide (fun w (h' : BY w A n cap xs) (j : Nat) (hj : (j : Int) < c) => RBAt_yes x y c A n cap xs mode k0 k1 k2 k3 u v j w h hu hv h' ⟨by omega, hj⟩)
  have HV := hide (fun w' (hb : Below w.heap.size w w') => hB.below hb)
  obtain ⟨C, hC⟩ : ∃ C : Nat, c = C := ⟨c.toNat, by have := (size_ok hc).2.2.2.2; omega⟩
  have hC4 : C ≤ 4 := by have := (size_ok hc).2.2.2.2; omega
  have hl := pixL_length h (by rw [hB.1]) (ks := [k0, k1, k2, k3]) rfl u v
  have HD := hide (pixL_byte (x := x) (y := y) (c := c) (mode := mode) hB.2.2.2.1 hk u v)
  rw [show c.toNat = C by omega]
  generalize pixL x y c xs mode [k0, k1, k2, k3] u v = ls at *
  subst hC
  have HLn := hide (show ls.length = C by omega)
  clear h hc hm hk hB hl hu hv
  go_enter Try.func62, Try.ntmps62
  go_wp2_with fail
  go_loopw [9, 10] (fun s i wr => ∃ q : Nat, q ≤ C ∧ i = .int .i64 q ∧ MbK w x y C A n cap mode k0 k1 k2 k3 wr ∧ wr.ownsRow (w.heap.size + 2) 5 1 s q (bytesV (ls.take q))) (fun _ i _ => C - (intOf i).toNat)
  case atStart => exact ⟨0, Nat.zero_le _, rfl, HK.out, own_nil _ _⟩
  case round =>
    clear a0 a1 a2 a3 g0 g1 g2 g3 g4
    obtain ⟨q, hq, rfl, hK, hO⟩ := hrel
    have KK := hide hK
    have HO := hide hO
    clear hK hO
    obtain ⟨_, a0, a1, a2, a3, _, _, _, _⟩ := KK.out.1.four
    obtain ⟨_, g0, g1, g2, g3, g4⟩ := KK.out.2.1.five
    by_cases hlt : q < C
    · have HGq := hide (fun w h => HG.out w h q (by omega))
      rw [Int.toNat_natCast] at HGq
      have hts := hide (take_succ (ls := ls) (q := q) (by rw [HLn.out]; exact hlt))
      have hbyte := hide (show 0 ≤ ls.getD q 0 ∧ ls.getD q 0 ≤ 255 from getD_byte HD.out q)
      generalize ls.getD q 0 = b at HGq hts hbyte
      go_wp2_with fail
      refine (HGq.out _ (HV.out _ KK.out.2.2)).mono ?_
      rintro e w1 ⟨rfl, hb⟩
      have K1 := hide (KK.out.below hb)
      have hown := own_below HO.out hb
      have hown2 := own_below hown (below_alloc w1 (.cells #[.int .u8 b] 5))
      obtain ⟨i0, hi, hz0, hz1, hz2⟩ := info_parts infoU8a
      have hsz := K1.out.size
      have HO1 := hide hown2
      clear hb hown
      go_wp2_with (first
        | (at_builtin; refine wpList_append_own _ rfl _ _ 22 rfl (w.heap.size + 2) 5 i0 (.int .u8 0) 1 1 Try.underlying22 hi hz0 hz1 hz2 rfl (by decide) _ _ _ rfl HO1.out ⟨w1.heap.size, 0, none⟩ 1 1 [.int .u8 b] rfl rfl ?c1 ?c2 ?c3 ?c4 ?c5 ?_)
        | fail)
      case c1 =>
        intro j u hj
        match j, hj with
        | 0, hj => simp at hj; subst hj; simp [Addr.add]
      case c2 => intro u hu; simp at hu; subst hu; rfl
      case c3 => unfold maxLen; omega
      case c4 => omega
      case c5 => simp; omega
      intro v' w2 ho hg _
      have hb2 : Below (w.heap.size + 2) (w1.alloc (.cells #[.int .u8 b] 5)) w2 := (Below.refl _ _).grown hg (by simp; omega) (fun k hk => (HO1.out.lt k hk).1)
      rw [show bytesV (ls.take q) ++ [Value.int .u8 b] = bytesV (ls.take (q + 1)) by rw [← hts.out, bytesV_app]; rfl] at ho
      have K2 := hide (show MbK w x y C A n cap mode k0 k1 k2 k3 w2 from (K1.out.below (below_alloc w1 (.cells #[.int .u8 b] 5))).under hb2)
      have HO2 := hide ho
      clear hown2 ho hg hb2 a0 a1 a2 a3 g0 g1 g2 g3 g4
      go_wp2_with fail
      go_roundw
      case rel => exact ⟨q + 1, by omega, by go_num, K2.out, HO2.out⟩
      case measure => simp [intOf]; omega
    · obtain rfl : q = C := by omega
      go_wp2_with fail
      go_ret
      have ht : ls.take q = ls := List.take_of_length_le (by rw [HLn.out]; exact Nat.le_refl _)
      rw [ht] at HO
      obtain ⟨A', c', e, hY⟩ := BY.ofOwn HO.out HD.out
      exact ⟨A', c', by rw [← e]; rfl, hY, KK.out.2.2⟩
end

section
open Go.RowKit

set_option maxRecDepth 100000 in
set_option maxHeartbeats 4000000 in
theorem RNAt_any (x y c : Int) (A : Option Addr) (n cap : Nat) (xs : List Int) (mode k0 k1 k2 k3 u v : Int) (w : World) (h : nearE x y c n mode u v = 0) (hB : BY w A n cap xs) (hk : ∀ z ∈ [k0, k1, k2, k3], 0 ≤ z ∧ z ≤ 255) :
    Calls Try.prog 32 #[.agg #[.int .i64 x, .int .i64 y, .int .i64 c, .slice A n cap], .agg #[.int .i64 mode, .int .u8 k0, .int .u8 k1, .int .u8 k2, .int .u8 k3], .int .i64 u, .int .i64 v] w (PixV w c.toNat (pixL x y c xs mode [k0, k1, k2, k3] (nearC u) (nearC v))) := by
  have H0 := below_alloc2 w (.cells #[.int .i64 x, .int .i64 y, .int .i64 c, .slice A n cap] 24) (.cells #[.int .i64 mode, .int .u8 k0, .int .u8 k1, .int .u8 k2, .int .u8 k3] 41)
  have B0 := (Bx.at (w := w) (g := w.heap.size) [.int .i64 x, .int .i64 y, .int .i64 c, .slice A n cap] 24 rfl).alloc (.cells #[.int .i64 mode, .int .u8 k0, .int .u8 k1, .int .u8 k2, .int .u8 k3] 41)
  have B1 := Bx.at (w := w.alloc (.cells #[.int .i64 x, .int .i64 y, .int .i64 c, .slice A n cap] 24)) (g := w.heap.size + 1) [.int .i64 mode, .int .u8 k0, .int .u8 k1, .int .u8 k2, .int .u8 k3] 41 (by simp)
  have e0 : [Value.int .i64 mode, .int .u8 k0, .int .u8 k1, .int .u8 k2, .int .u8 k3].toArray = #[Value.int .i64 mode, .int .u8 k0, .int .u8 k1, .int .u8 k2, .int .u8 k3] := rfl
  have e1 : [Value.int .i64 x, .int .i64 y, .int .i64 c, .slice A n cap].toArray = #[Value.int .i64 x, .int .i64 y, .int .i64 c, .slice A n cap] := rfl
  rw [e1] at B0 B1
  rw [e0] at B1
  have HK := hide (show MbK w x y c A n cap mode k0 k1 k2 k3 _ from ⟨B0, B1, H0⟩)
  clear H0 B0 B1 e0 e1
  obtain ⟨hb0, hr⟩ := nearE_zero h
  have hu : isI64 (nearC u) := nearC_i64 hr.1
  have hv : isI64 (nearC v) := nearC_i64 hr.2
  have HP := hide (fun w (h' : BY w A n cap xs) => RNPixel_any x y c A n cap xs mode k0 k1 k2 k3 (nearC u) (nearC v) w hb0 hu hv h' hk)
  have HV := hide (fun w' (hb : Below w.heap.size w w') => hB.below hb)
  have HN1 := hide (fun w => RNearest_any u w hr.1)
  have HN2 := hide (fun w => RNearest_any v w hr.2)
  obtain ⟨W, hW⟩ : ∃ W, W = (w.alloc (.cells #[.int .i64 x, .int .i64 y, .int .i64 c, .slice A n cap] 24)).alloc (.cells #[.int .i64 mode, .int .u8 k0, .int .u8 k1, .int .u8 k2, .int .u8 k3] 41) := ⟨_, rfl⟩
  rw [← hW] at HK
  have KC := hide (fun w' (h : Bel W w') => (⟨(HK.out.below h).1.four.2.1, (HK.out.below h).1.four.2.2.1, (HK.out.below h).1.four.2.2.2.1, (HK.out.below h).1.four.2.2.2.2.1, (HK.out.below h).2.1.five.2.1, (HK.out.below h).2.1.five.2.2.1, (HK.out.below h).2.1.five.2.2.2.1, (HK.out.below h).2.1.five.2.2.2.2.1, (HK.out.below h).2.1.five.2.2.2.2.2⟩ :
    w'.cell? ⟨w.heap.size, 0, none⟩ = some (.int .i64 x) ∧ w'.cell? ⟨w.heap.size, 1, none⟩ = some (.int .i64 y) ∧ w'.cell? ⟨w.heap.size, 2, none⟩ = some (.int .i64 c) ∧ w'.cell? ⟨w.heap.size, 3, none⟩ = some (.slice A n cap) ∧ w'.cell? ⟨w.heap.size + 1, 0, none⟩ = some (.int .i64 mode) ∧ w'.cell? ⟨w.heap.size + 1, 1, none⟩ = some (.int .u8 k0) ∧ w'.cell? ⟨w.heap.size + 1, 2, none⟩ = some (.int .u8 k1) ∧ w'.cell? ⟨w.heap.size + 1, 3, none⟩ = some (.int .u8 k2) ∧ w'.cell? ⟨w.heap.size + 1, 4, none⟩ = some (.int .u8 k3)))
  have KV := hide (fun w' (h : Bel W w') => HV.out _ (HK.out.below h).2.2)
  have KL := hide (fun w' (h : Bel W w') => (HK.out.below h).2.2)
  obtain ⟨C, hC⟩ : ∃ C : Nat, c.toNat = C := ⟨_, rfl⟩
  rw [hC] at HP ⊢
  generalize pixL x y c xs mode [k0, k1, k2, k3] (nearC u) (nearC v) = ls at *
  generalize nearC u = p at *
  generalize nearC v = q at *
  have HW := Lib.hid hW
  clear h hb0 hr hu hv hk hB hC hW
  go_enter Try.func32, Try.ntmps32
  go_wp2_with fail
  rw [← HW.out]
  go_region_held3 (fun w' => w'.cell? ⟨w.heap.size, 0, none⟩ = some (.int .i64 x) ∧ w'.cell? ⟨w.heap.size, 1, none⟩ = some (.int .i64 y) ∧ w'.cell? ⟨w.heap.size, 2, none⟩ = some (.int .i64 c) ∧ w'.cell? ⟨w.heap.size, 3, none⟩ = some (.slice A n cap) ∧ w'.cell? ⟨w.heap.size + 1, 0, none⟩ = some (.int .i64 mode) ∧ w'.cell? ⟨w.heap.size + 1, 1, none⟩ = some (.int .u8 k0) ∧ w'.cell? ⟨w.heap.size + 1, 2, none⟩ = some (.int .u8 k1) ∧ w'.cell? ⟨w.heap.size + 1, 3, none⟩ = some (.int .u8 k2) ∧ w'.cell? ⟨w.heap.size + 1, 4, none⟩ = some (.int .u8 k3))
    ((refine KC.out _ ?_; repeat (first | assumption | exact Bel.refl _ | refine Bel.drew ?_)))
    (first
      | (go_at_call_of 63 (Value.int .i64 u); refine (HN1.out _).mono ?_; rintro e w1 ⟨rfl, rfl⟩)
      | (go_at_call_of 63 (Value.int .i64 v); refine (HN2.out _).mono ?_; rintro e w2 ⟨rfl, rfl⟩)
      | (go_at_call 62; refine (HP.out _ (KV.out _ (by repeat (first | assumption | exact Bel.refl _ | refine Bel.drew ?_)))).mono ?_; rintro e w3 ⟨A', c', rfl, hY, hb⟩; have k3 : Bel W w3 := Bel.trans (by repeat (first | assumption | exact Bel.refl _ | refine Bel.drew ?_)) hb; have HY := hide hY; clear hb hY))
  go_wp2_with fail
  go_ret
  exact ⟨_, _, rfl, HY.out, KL.out _ k3⟩
end

section
open Go.RowKit

theorem MbK.drewN {w w1 : World} {x y c : Int} {A : Option Addr} {n cap : Nat} {mode k0 k1 k2 k3 : Int} (h : MbK w x y c A n cap mode k0 k1 k2 k3 w1) (m : Nat) : MbK w x y c A n cap mode k0 k1 k2 k3 (w1.drewN m) := ⟨h.1.drewN m, h.2.1.drewN m, bdrewN h.2.2 m⟩
/-- an image is of one colour, and its border shows no other -/
def oneP (C n : Nat) (xs ks : List Int) (mode : Int) : Prop := ∀ i, i < n → xs.getD i 0 = xs.getD (i % C) 0 ∧ (mode = 0 → xs.getD i 0 = ks.getD (i % C) 0)
theorem bthere_not {x y mode px py : Int} (hm : 0 ≤ mode ∧ mode ≤ 3) (hx : 1 ≤ x) (hy : 1 ≤ y) (h : ¬ bthere x y mode px py = true) : mode = 0 := by
  unfold bthere idxB at h
  have o1 : okM mode x = true := by simp [okM]; omega
  have o2 : okM mode y = true := by simp [okM]; omega
  rw [o1, o2] at h
  by_cases q : mode = 0
  · exact q
  · rw [decide_eq_false q] at h
    simp at h
theorem one_pix {x y c n mode : Int} {xs ks : List Int} {N C : Nat} (h : bcheckZ x y c n mode = 0) (hx : xs.length = N) (hn : n = N) (hc : c = C) (hk : ks.length = 4) (h1 : oneP C N xs ks mode) (px py : Int) : pixL x y c xs mode ks px py = xs.take C := by
  subst hn hc
  obtain ⟨hc, hm⟩ := bcheck_zero h
  obtain ⟨x1, _, y1, _, c1⟩ := size_ok hc
  have hl := pixL_length h (by rw [hx]) hk px py
  have hC : C ≤ N := by
    obtain ⟨_, _, ⟨r1, r2⟩, _⟩ := has_in (bat_has h px py 0 (by omega))
    omega
  have e1 : (pixL x y C xs mode ks px py).length = (xs.take C).length := by rw [List.length_take]; omega
  refine List.ext_getElem e1 fun j h2 h3 => ?_
  have hj : j < C := by rw [List.length_take] at h3; omega
  have g := pixL_get (xs := xs) (ks := ks) h px py (j : Int) (by omega) (by omega)
  rw [Int.toNat_natCast] at g
  have e2 : (pixL x y C xs mode ks px py)[j] = (pixL x y C xs mode ks px py).getD j 0 := by rw [List.getD_eq_getElem?_getD, List.getElem?_eq_getElem h2]; rfl
  have e3 : (xs.take C)[j] = xs.getD j 0 := by rw [List.getElem_take, List.getD_eq_getElem?_getD, List.getElem?_eq_getElem (by omega)]; rfl
  have hjm : j % C = j := Nat.mod_eq_of_lt hj
  rw [e2, e3, g]
  by_cases hb : bthere x y mode px py = true
  · rw [if_pos hb]
    obtain ⟨_, _, ⟨r1, r2⟩, _⟩ := has_in (bat_has h px py 0 (by omega))
    obtain ⟨P, hP⟩ : ∃ P : Nat, idxV mode py y * x + idxV mode px x = P := ⟨(idxV mode py y * x + idxV mode px x).toNat, by
      obtain ⟨_, ⟨q1, q2⟩, _, _⟩ := has_in (bat_has h px py 0 (by omega))
      omega⟩
    have eb : bat x y C mode px py = ((P * C : Nat) : Int) := by unfold bat; rw [hP]; simp
    rw [hP] at r1 r2
    have hPC : P * C + C ≤ N := by have : ((P : Int) * C + C ≤ N) := r2; exact_mod_cast this
    rw [eb, show (((P * C : Nat) : Int) + (j : Int)).toNat = P * C + j by omega]
    have := (h1 (P * C + j) (by omega)).1
    rw [this, Nat.mul_comm, Nat.mul_add_mod, hjm]
  · rw [if_neg hb]
    have hm0 := bthere_not hm x1 y1 hb
    have := (h1 j (by omega)).2 hm0
    rw [this, hjm]

set_option maxRecDepth 100000 in
set_option maxHeartbeats 8000000 in
theorem One_any (x y c : Int) (A : Option Addr) (n cap : Nat) (xs : List Int) (mode k0 k1 k2 k3 : Int) (w : World) (hc : c = 1 ∨ c = 3 ∨ c = 4) (hB : BY w A n cap xs) :
    Calls Try.prog 33 #[.agg #[.int .i64 x, .int .i64 y, .int .i64 c, .slice A n cap], .agg #[.int .i64 mode, .int .u8 k0, .int .u8 k1, .int .u8 k2, .int .u8 k3]] w fun e w' => ∃ b, e = .returned (.bool b) ∧ (b = true → oneP c.toNat n xs [k0, k1, k2, k3] mode) ∧ Below w.heap.size w w' := by
  have H0 := below_alloc2 w (.cells #[.int .i64 x, .int .i64 y, .int .i64 c, .slice A n cap] 24) (.cells #[.int .i64 mode, .int .u8 k0, .int .u8 k1, .int .u8 k2, .int .u8 k3] 41)
  have B0 := (Bx.at (w := w) (g := w.heap.size) [.int .i64 x, .int .i64 y, .int .i64 c, .slice A n cap] 24 rfl).alloc (.cells #[.int .i64 mode, .int .u8 k0, .int .u8 k1, .int .u8 k2, .int .u8 k3] 41)
  have B1 := Bx.at (w := w.alloc (.cells #[.int .i64 x, .int .i64 y, .int .i64 c, .slice A n cap] 24)) (g := w.heap.size + 1) [.int .i64 mode, .int .u8 k0, .int .u8 k1, .int .u8 k2, .int .u8 k3] 41 (by simp)
  have e0 : [Value.int .i64 mode, .int .u8 k0, .int .u8 k1, .int .u8 k2, .int .u8 k3].toArray = #[Value.int .i64 mode, .int .u8 k0, .int .u8 k1, .int .u8 k2, .int .u8 k3] := rfl
  have e1 : [Value.int .i64 x, .int .i64 y, .int .i64 c, .slice A n cap].toArray = #[Value.int .i64 x, .int .i64 y, .int .i64 c, .slice A n cap] := rfl
  rw [e1] at B0 B1
  rw [e0] at B1
  have HK := hide (show MbK w x y c A n cap mode k0 k1 k2 k3 _ from ⟨B0, B1, H0⟩)
  clear H0 B0 B1 e0 e1
  have HV := hide (fun w' (hb : Below w.heap.size w w') => hB.below hb)
  have hnm : n ≤ 9223372036854775807 := by have := hB.2.1; have := hB.2.2.1; unfold maxLen at this; omega
  obtain ⟨C, hC⟩ : ∃ C : Nat, c = C := ⟨c.toNat, by omega⟩
  rw [show c.toNat = C by omega]
  subst hC
  have hC1 : 1 ≤ C ∧ C ≤ 4 := by omega
  have c1 : ¬ (C : Int) < 1 := by omega
  have c2 : ¬ 4 < (C : Int) := by omega
  have c3 : ¬ (C : Int) = 0 := by omega
  have HC1 := hide hC1
  clear hc hB hC1
  obtain ⟨_, a0, a1, a2, a3, _, _, _, _⟩ := HK.out.1.four
  obtain ⟨_, g0, g1, g2, g3, g4⟩ := HK.out.2.1.five
  go_enter Try.func33, Try.ntmps33
  go_wp2_with fail
  go_loopw [5] (fun i wr => ∃ q : Nat, q ≤ n ∧ i = .int .i64 q ∧ (∀ j, j < q → xs.getD j 0 = xs.getD (j % C) 0 ∧ (mode = 0 → xs.getD j 0 = [k0, k1, k2, k3].getD (j % C) 0)) ∧ MbK w x y C A n cap mode k0 k1 k2 k3 wr) (fun i _ => n - (intOf i).toNat)
  case atStart => exact ⟨0, Nat.zero_le _, rfl, fun j hj => absurd hj (by omega), HK.out⟩
  case round =>
    clear a0 a1 a2 a3 g0 g1 g2 g3 g4
    obtain ⟨q, hq, rfl, hG, hK⟩ := hrel
    have KK := hide hK
    have HG := hide hG
    clear hK hG
    obtain ⟨_, a0, a1, a2, a3, _, _, _, _⟩ := KK.out.1.four
    obtain ⟨_, g0, g1, g2, g3, g4⟩ := KK.out.2.1.five
    by_cases hlt : q < n
    · obtain ⟨bb, o, rfl, _, hcs⟩ := (HV.out _ KK.out.2.2).2.2.2.2 (by omega)
      have hrC : q % C < C := Nat.mod_lt _ (by have := HC1.out; omega)
      have hrq : q % C ≤ q := Nat.mod_le _ _
      have htm : Int.tmod (q : Int) (C : Int) = ((q % C : Nat) : Int) := by
        rw [Int.tmod_eq_emod_of_nonneg (by omega)]
        simp
      have HS := hide (fun (e1 : xs.getD q 0 = xs.getD (q % C) 0) (e2 : mode = 0 → xs.getD q 0 = [k0, k1, k2, k3].getD (q % C) 0) j (hj : j < q + 1) => show xs.getD j 0 = xs.getD (j % C) 0 ∧ (mode = 0 → xs.getD j 0 = [k0, k1, k2, k3].getD (j % C) 0) by
        rcases Nat.lt_or_ge j q with t | t
        · exact HG.out j t
        · obtain rfl : j = q := by omega
          exact ⟨e1, e2⟩)
      obtain ⟨r, hr⟩ : ∃ r, q % C = r := ⟨_, rfl⟩
      rw [hr] at htm HS hrC hrq
      have d1 := hcs q hlt
      have d2 := hcs r (by omega)
      have d3 := col_cell KK.out.2.1 r (by have := HC1.out; omega)
      obtain ⟨U, hU⟩ : ∃ U, xs.getD q 0 = U := ⟨_, rfl⟩
      obtain ⟨V, hV⟩ : ∃ V, xs.getD r 0 = V := ⟨_, rfl⟩
      obtain ⟨Z, hZ⟩ : ∃ Z, [k0, k1, k2, k3].getD r 0 = Z := ⟨_, rfl⟩
      rw [hU] at d1 HS
      rw [hV] at d2 HS
      rw [hZ] at d3 HS
      have i0 : (0 : Int) ≤ (q : Int) := by omega
      have i1 : (q : Int) < (n : Int) := by omega
      have i2 : (0 : Int) ≤ (r : Int) := by omega
      have i3 : (r : Int) < (n : Int) := by omega
      have i4 : (r : Int) < 4 := by have := HC1.out; omega
      clear hcs hr hU hV hZ
      by_cases h1 : U = V
      · subst h1
        have e1 : (U != U) = false := by simp
        by_cases hm : mode = 0
        · have em : (mode == 0) = true := by simpa using hm
          by_cases h2 : U = Z
          · have e2 : (U != Z) = false := by simpa using h2
            have HN := hide (HS.out rfl (fun _ => h2))
            clear hm h2
            go_wp2_with fail
            refine wp_region_quiet_lit (by kernel_rfl) (by kernel_rfl) ?_
            iterate 34 go_big_quiet_step (fail)
            refine wpQuiet_nil ?_
            intro _ hw'
            obtain ⟨nq, hw''⟩ := hw'
            subst hw''
            have KJ := hide (KK.out.drewN nq)
            go_wp2_with fail
            go_roundw
            case rel => exact ⟨q + 1, by omega, by go_num, HN.out, KJ.out⟩
            case measure => simp [intOf]; omega
          · have e2 : (U != Z) = true := by simpa using h2
            clear hm h2
            go_wp2_with fail
            refine wp_region_quiet_lit (by kernel_rfl) (by kernel_rfl) ?_
            iterate 34 go_big_quiet_step (fail)
            refine wpQuiet_nil ?_
            intro _ hw'
            obtain ⟨nq, hw''⟩ := hw'
            subst hw''
            have KJ := hide (KK.out.drewN nq)
            go_wp2_with fail
            go_ret
            exact ⟨false, rfl, (fun t => by cases t), KJ.out.2.2⟩
        · have em : (mode == 0) = false := by simpa using hm
          have HN := hide (HS.out rfl (fun t => absurd t hm))
          clear hm
          go_wp2_with fail
          refine wp_region_quiet_lit (by kernel_rfl) (by kernel_rfl) ?_
          iterate 34 go_big_quiet_step (fail)
          refine wpQuiet_nil ?_
          intro _ hw'
          obtain ⟨nq, hw''⟩ := hw'
          subst hw''
          have KJ := hide (KK.out.drewN nq)
          go_wp2_with fail
          go_roundw
          case rel => exact ⟨q + 1, by omega, by go_num, HN.out, KJ.out⟩
          case measure => simp [intOf]; omega
      · have e1 : (U != V) = true := by simpa using h1
        clear h1
        go_wp2_with fail
        refine wp_region_quiet_lit (by kernel_rfl) (by kernel_rfl) ?_
        iterate 34 go_big_quiet_step (fail)
        refine wpQuiet_nil ?_
        intro _ hw'
        obtain ⟨nq, hw''⟩ := hw'
        subst hw''
        have KJ := hide (KK.out.drewN nq)
        go_wp2_with fail
        go_ret
        exact ⟨false, rfl, (fun t => by cases t), KJ.out.2.2⟩
    · obtain rfl : q = n := by omega
      go_wp2_with fail
      go_ret
      exact ⟨true, rfl, fun _ => HG.out, KK.out.2.2⟩
end

section
open Go.RowKit

theorem str_eq {xs ys : List Int} (hx : ∀ x ∈ xs, 0 ≤ x ∧ x ≤ 255) (hy : ∀ x ∈ ys, 0 ≤ x ∧ x ≤ 255) : ((strOfNums xs).toList == (strOfNums ys).toList) = decide (xs = ys) := by
  rw [Lib.strOfNums_toList, Lib.strOfNums_toList]
  exact bytesOf_inj hx hy
theorem RSame14_any (A A' : Option Addr) (n c n' c' : Nat) (xs ys : List Int) (w : World) (h : BY w A n c xs) (h' : BY w A' n' c' ys) :
    Calls Try.prog 31 #[.slice A n c, .slice A' n' c'] w fun e w' => e = .returned (.bool (decide (xs = ys))) ∧ w = w' := by
  have h1 := h.bytesIn.convert h.1 c 22 5 9 Try.underlying22 Try.underlying5 Try.underlying9
  have h2 := h'.bytesIn.convert h'.1 c' 22 5 9 Try.underlying22 Try.underlying5 Try.underlying9
  have h3 := str_eq h.2.2.2.1 h'.2.2.2.1
  generalize strOfNums xs = S at *
  generalize strOfNums ys = S' at *
  obtain ⟨r, hr⟩ : ∃ r, decide (xs = ys) = r := ⟨_, rfl⟩
  rw [hr] at h3 ⊢
  clear h h' hr
  go_enter Try.func31, Try.ntmps31
  go_wp2_with fail
  go_ret
  exact ⟨by simp, rfl⟩
end

section
open Go.RowKit

def NaK (w : World) (x y c : Int) (A : Option Addr) (n cap : Nat) (mode k0 k1 k2 k3 u v : Int) (w' : World) : Prop :=
  Bx w' w.heap.size [.int .i64 x, .int .i64 y, .int .i64 c, .slice A n cap] ∧ Bx w' (w.heap.size + 1) [.int .i64 mode, .int .u8 k0, .int .u8 k1, .int .u8 k2, .int .u8 k3] ∧ Bx w' (w.heap.size + 1 + 1) [.int .i64 u, .int .i64 v] ∧ Below w.heap.size w w'
theorem NaK.below {w w1 w2 : World} {x y c : Int} {A : Option Addr} {n cap : Nat} {mode k0 k1 k2 k3 u v : Int} (h : NaK w x y c A n cap mode k0 k1 k2 k3 u v w1) (hb : Below w1.heap.size w1 w2) : NaK w x y c A n cap mode k0 k1 k2 k3 u v w2 :=
  ⟨h.1.below hb, h.2.1.below hb, h.2.2.1.below hb, h.2.2.2.trans (hb.mono h.2.2.2.size)⟩
set_option maxRecDepth 100000 in
set_option maxHeartbeats 8000000 in
theorem NearAt_walk (x y c : Int) (A : Option Addr) (n cap : Nat) (xs : List Int) (mode k0 k1 k2 k3 u v : Int) (w : World) (hB : BY w A n cap xs) (hk : ∀ z ∈ [k0, k1, k2, k3], 0 ≤ z ∧ z ≤ 255) :
    Calls Try.prog 7 #[.agg #[.int .i64 x, .int .i64 y, .int .i64 c, .slice A n cap], .agg #[.int .i64 mode, .int .u8 k0, .int .u8 k1, .int .u8 k2, .int .u8 k3], .agg #[.int .i64 u, .int .i64 v]] w (Says w (.bool true)) := by
  have H0 := below_alloc3 w (.cells #[.int .i64 x, .int .i64 y, .int .i64 c, .slice A n cap] 24) (.cells #[.int .i64 mode, .int .u8 k0, .int .u8 k1, .int .u8 k2, .int .u8 k3] 41) (.cells #[.int .i64 u, .int .i64 v] 50)
  have B0 := ((Bx.at (w := w) (g := w.heap.size) [.int .i64 x, .int .i64 y, .int .i64 c, .slice A n cap] 24 rfl).alloc (.cells #[.int .i64 mode, .int .u8 k0, .int .u8 k1, .int .u8 k2, .int .u8 k3] 41)).alloc (.cells #[.int .i64 u, .int .i64 v] 50)
  have B1 := (Bx.at (w := w.alloc (.cells #[.int .i64 x, .int .i64 y, .int .i64 c, .slice A n cap] 24)) (g := w.heap.size + 1) [.int .i64 mode, .int .u8 k0, .int .u8 k1, .int .u8 k2, .int .u8 k3] 41 (by simp)).alloc (.cells #[.int .i64 u, .int .i64 v] 50)
  have B2 := Bx.at (w := (w.alloc (.cells #[.int .i64 x, .int .i64 y, .int .i64 c, .slice A n cap] 24)).alloc (.cells #[.int .i64 mode, .int .u8 k0, .int .u8 k1, .int .u8 k2, .int .u8 k3] 41)) (g := w.heap.size + 1 + 1) [.int .i64 u, .int .i64 v] 50 (by simp)
  have e0 : [Value.int .i64 mode, .int .u8 k0, .int .u8 k1, .int .u8 k2, .int .u8 k3].toArray = #[Value.int .i64 mode, .int .u8 k0, .int .u8 k1, .int .u8 k2, .int .u8 k3] := rfl
  have e1 : [Value.int .i64 x, .int .i64 y, .int .i64 c, .slice A n cap].toArray = #[Value.int .i64 x, .int .i64 y, .int .i64 c, .slice A n cap] := rfl
  have e2 : [Value.int .i64 u, .int .i64 v].toArray = #[Value.int .i64 u, .int .i64 v] := rfl
  rw [e1, e0, e2] at B0 B2
  rw [e1, e0, e2] at B1
  have HF := hide (fun w => Few_any x y c A n cap 20000 w)
  have HC := hide (fun w => RNCheck_any x y c A n cap mode k0 k1 k2 k3 u v w)
  have HA := hide Nalive_any
  have HS := hide RSame14_any
  have HK := hide (show NaK w x y c A n cap mode k0 k1 k2 k3 u v _ from ⟨B0, B1, B2, H0⟩)
  clear H0 B0 B1 B2 e0 e1 e2
  by_cases hn : (n : Int) ≤ 20000
  · rw [decide_eq_true hn] at HF
    obtain ⟨z, hz⟩ : ∃ z, nearE x y c n mode u v = z := ⟨_, rfl⟩
    rw [hz] at HC
    by_cases hz0 : z = 0
    · subst hz0
      obtain ⟨hb0, hr⟩ := nearE_zero hz
      obtain ⟨hc, hm⟩ := bcheck_zero hb0
      have cc := (size_ok hc).2.2.2.2
      have HT := hide (fun w (h : BY w A n cap xs) => NAt_yes x y c A n cap xs mode k0 k1 k2 k3 u v w hz h hk)
      have HR := hide (fun w (h : BY w A n cap xs) => RNAt_any x y c A n cap xs mode k0 k1 k2 k3 u v w hz h hk)
      have HO := hide (fun w (h : BY w A n cap xs) => One_any x y c A n cap xs mode k0 k1 k2 k3 w cc h)
      have HV := hide (fun w' (hb : Below w.heap.size w w') => hB.below hb)
      obtain ⟨C, hC⟩ : ∃ C : Nat, c = C := ⟨c.toNat, by omega⟩
      have HE := hide (fun h1 => one_pix hb0 hB.1 rfl hC (ks := [k0, k1, k2, k3]) rfl h1 (nearC u) (nearC v))
      obtain ⟨_, _, ⟨r1, r2⟩, n1⟩ := has_in (bat_has hb0 (nearC u) (nearC v) 0 (by omega))
      have hCn : C ≤ n := by omega
      have hcap : n ≤ cap := hB.2.1
      have i1 : (0 : Int) ≤ (C : Int) := by omega
      have i2 : (C : Int) ≤ (cap : Int) := by omega
      obtain ⟨bb, o, rfl, _, _⟩ := hB.2.2.2.2 (by omega)
      rw [show c.toNat = C by omega] at HT HR HO
      generalize pixL x y c xs mode [k0, k1, k2, k3] (nearC u) (nearC v) = ls at *
      clear hb0 hr hc hm cc hB hk hz hn r1 r2 n1
      subst hC
      obtain ⟨_, a0, a1, a2, a3, _, _, _, _⟩ := HK.out.1.four
      obtain ⟨_, g0, g1, g2, g3, g4⟩ := HK.out.2.1.five
      obtain ⟨_, p0, p1, _, _⟩ := HK.out.2.2.1.two
      go_enter Try.func7, Try.ntmps7
      go_wp2_with fail
      refine (HF.out _).mono ?_
      rintro e w1 ⟨rfl, hb⟩
      have K1 := hide (HK.out.below hb)
      clear hb a0 a1 a2 a3 g0 g1 g2 g3 g4 p0 p1
      obtain ⟨_, a0, a1, a2, a3, _, _, _, _⟩ := K1.out.1.four
      obtain ⟨_, g0, g1, g2, g3, g4⟩ := K1.out.2.1.five
      obtain ⟨_, p0, p1, _, _⟩ := K1.out.2.2.1.two
      go_wp2_with fail
      refine (HT.out _ (HV.out _ K1.out.2.2.2)).mono ?_
      rintro e w2 ⟨A', c', rfl, hY, hb⟩
      have K2 := hide (K1.out.below hb)
      have HY := hide hY
      clear hb hY a0 a1 a2 a3 g0 g1 g2 g3 g4 p0 p1
      obtain ⟨_, a0, a1, a2, a3, _, _, _, _⟩ := K2.out.1.four
      obtain ⟨_, g0, g1, g2, g3, g4⟩ := K2.out.2.1.five
      obtain ⟨_, p0, p1, _, _⟩ := K2.out.2.2.1.two
      go_wp2_with fail
      refine (HC.out _).mono ?_
      rintro e w3 ⟨rfl, hb⟩
      have K3 := hide (K2.out.below hb)
      have HY3 := hide (HY.out.below hb)
      clear hb HY a0 a1 a2 a3 g0 g1 g2 g3 g4 p0 p1
      obtain ⟨_, a0, a1, a2, a3, _, _, _, _⟩ := K3.out.1.four
      obtain ⟨_, g0, g1, g2, g3, g4⟩ := K3.out.2.1.five
      obtain ⟨_, p0, p1, _, _⟩ := K3.out.2.2.1.two
      go_wp2_with fail
      refine (HR.out _ (HV.out _ K3.out.2.2.2)).mono ?_
      rintro e w4 ⟨A2, c2, rfl, hY, hb⟩
      have K4 := hide (K3.out.below hb)
      have HY4 := hide (HY3.out.below hb)
      have HZ := hide hY
      clear hb hY HY3 a0 a1 a2 a3 g0 g1 g2 g3 g4 p0 p1
      obtain ⟨_, a0, a1, a2, a3, _, _, _, _⟩ := K4.out.1.four
      obtain ⟨_, g0, g1, g2, g3, g4⟩ := K4.out.2.1.five
      obtain ⟨_, p0, p1, _, _⟩ := K4.out.2.2.1.two
      go_wp2_with fail
      refine (HS.out _ _ _ _ _ _ _ _ _ HY4.out HZ.out).mono ?_
      rintro e w5 ⟨rfl, rfl⟩
      have es : decide (ls = ls) = true := by simp
      rw [es]
      clear es
      go_wp2_with fail
      refine (HO.out _ (HV.out _ K4.out.2.2.2)).mono ?_
      rintro e w6 ⟨b, rfl, h1, hb⟩
      have K6 := hide (K4.out.below hb)
      have HY6 := hide (HY4.out.below hb)
      have H1 := hide h1
      clear hb h1 HY4 HZ a0 a1 a2 a3 g0 g1 g2 g3 g4 p0 p1
      obtain ⟨_, a0, a1, a2, a3, _, _, _, _⟩ := K6.out.1.four
      obtain ⟨_, g0, g1, g2, g3, g4⟩ := K6.out.2.1.five
      obtain ⟨_, p0, p1, _, _⟩ := K6.out.2.2.1.two
      cases b
      · go_wp2_with fail
        refine (HA.out _).mono ?_
        rintro e w9 ⟨rfl, rfl⟩
        go_wp2_with fail
        go_ret
        exact ⟨rfl, K6.out.2.2.2⟩
      · have hone := HE.out (H1.out rfl)
        have HX := hide (BY.part (F := 0) (L := C) (HV.out _ K6.out.2.2.2) (by omega))
        go_wp2_with fail
        refine (HS.out _ _ _ _ _ _ _ _ _ HY6.out HX.out).mono ?_
        rintro e w7 ⟨rfl, rfl⟩
        rw [List.drop_zero, hone, decide_eq_true rfl]
        clear hone
        go_wp2_with fail
        refine (HA.out _).mono ?_
        rintro e w9 ⟨rfl, rfl⟩
        go_wp2_with fail
        go_ret
        exact ⟨rfl, K6.out.2.2.2⟩
    · have HT := hide (fun w => NAt_no x y c A n cap mode k0 k1 k2 k3 u v z w hz hz0)
      have z1 : (z != 0) = true := by simpa using hz0
      clear hB hk hz hn hz0
      obtain ⟨_, a0, a1, a2, a3, _, _, _, _⟩ := HK.out.1.four
      obtain ⟨_, g0, g1, g2, g3, g4⟩ := HK.out.2.1.five
      obtain ⟨_, p0, p1, _, _⟩ := HK.out.2.2.1.two
      go_enter Try.func7, Try.ntmps7
      go_wp2_with fail
      refine (HF.out _).mono ?_
      rintro e w1 ⟨rfl, hb⟩
      have K1 := hide (HK.out.below hb)
      clear hb a0 a1 a2 a3 g0 g1 g2 g3 g4 p0 p1
      obtain ⟨_, a0, a1, a2, a3, _, _, _, _⟩ := K1.out.1.four
      obtain ⟨_, g0, g1, g2, g3, g4⟩ := K1.out.2.1.five
      obtain ⟨_, p0, p1, _, _⟩ := K1.out.2.2.1.two
      go_wp2_with fail
      refine (HT.out _).mono ?_
      rintro e w1 ⟨rfl, hb⟩
      have K2 := hide (K1.out.below hb)
      clear hb a0 a1 a2 a3 g0 g1 g2 g3 g4 p0 p1
      obtain ⟨_, a0, a1, a2, a3, _, _, _, _⟩ := K2.out.1.four
      obtain ⟨_, g0, g1, g2, g3, g4⟩ := K2.out.2.1.five
      obtain ⟨_, p0, p1, _, _⟩ := K2.out.2.2.1.two
      go_wp2_with fail
      refine (HC.out _).mono ?_
      rintro e w1 ⟨rfl, hb⟩
      have K3 := hide (K2.out.below hb)
      clear hb a0 a1 a2 a3 g0 g1 g2 g3 g4 p0 p1
      obtain ⟨_, a0, a1, a2, a3, _, _, _, _⟩ := K3.out.1.four
      obtain ⟨_, g0, g1, g2, g3, g4⟩ := K3.out.2.1.five
      obtain ⟨_, p0, p1, _, _⟩ := K3.out.2.2.1.two
      go_wp2_with fail
      refine (HA.out _).mono ?_
      rintro e w9 ⟨rfl, rfl⟩
      go_wp2_with fail
      go_ret
      exact ⟨rfl, K3.out.2.2.2⟩
  · rw [decide_eq_false hn] at HF
    clear hB hk hn
    obtain ⟨_, a0, a1, a2, a3, _, _, _, _⟩ := HK.out.1.four
    obtain ⟨_, g0, g1, g2, g3, g4⟩ := HK.out.2.1.five
    obtain ⟨_, p0, p1, _, _⟩ := HK.out.2.2.1.two
    go_enter Try.func7, Try.ntmps7
    go_wp2_with fail
    refine (HF.out _).mono ?_
    rintro e w1 ⟨rfl, hb⟩
    have K1 := hide (HK.out.below hb)
    clear hb a0 a1 a2 a3 g0 g1 g2 g3 g4 p0 p1
    go_wp2_with fail
    go_ret
    exact ⟨rfl, K1.out.2.2.2⟩
end

end Go.Proofs.Ytbogckpnajjlmaa
