/-
Contracts of package wide: the library's sums with carry, Of, below, sizes. No statement is proved here.
-/
import Derived.Test.YtoaaecggfaaplaaFits
import Derived.Shelf.Bits.Mul64
import Derived.Laws.Externs
namespace Go.Proofs.Ytoaaecggfaaplaa
open Go.RowKit

def lays264_ren : Go.Shelf.Ren := ⟨fun | 264 => 43 | n => n, fun | 53 => 22 | 46 => 65 | n => n, fun | n => n⟩
theorem lays264 : Go.Proofs.Lays.n264 Try.prog lays264_ren := {
  mixed := by kernel_rfl
  f264 := Try.func43.trans (congrArg some (by kernel_rfl))
  t46 := Try.underlying65
  a46 := Try.isAgg65
  z46 := Try.sizeOf65
  v46 := Try.zeroValue65
  t53 := Try.underlying22
  a53 := Try.isAgg22
  z53 := Try.sizeOf22
  v53 := Try.zeroValue22 }
open Go.Lib in
theorem Mul64_any (x y : Nat) (hx : x < 18446744073709551616) (hy : y < 18446744073709551616) (w : World) :
    Calls Try.prog 43 #[.int .u64 x, .int .u64 y] w fun e w' => e = .returned (.tuple #[.int .u64 ((x * y / 18446744073709551616 : Nat) : Int), .int .u64 ((x * y % 18446744073709551616 : Nat) : Int)]) ∧ w' = w := Any.bits_Mul64 lays264 x y hx hy w

def add64Row : Array Value → Sem Value := fun args => do
  let (x, y, c) ← Extern.MathBitsCarry.three "Add64" args
  pure (Extern.MathBitsCarry.pair ((x + y + c) % Extern.MathBitsCarry.m64) ((x + y + c) / Extern.MathBitsCarry.m64))
def sub64Row : Array Value → Sem Value := fun args => do
  let (x, y, b) ← Extern.MathBitsCarry.three "Sub64" args
  pure (Extern.MathBitsCarry.pair ((x + Extern.MathBitsCarry.m64 - y - b) % Extern.MathBitsCarry.m64) (if x < y + b then 1 else 0))
theorem run_add64Row (P : Program) (x y c : Nat) (hc : c ≤ 1) (w : World) :
    (add64Row #[.int .u64 x, .int .u64 y, .int .u64 c]).run P w =
      .ok (.tuple #[.int .u64 (((x + y + c) % 18446744073709551616 : Nat) : Int), .int .u64 (((x + y + c) / 18446744073709551616 : Nat) : Int)]) w := by
  have : c = 0 ∨ c = 1 := by omega
  rcases this with rfl | rfl <;> rfl
theorem run_sub64Row (P : Program) (x y b : Nat) (hb : b ≤ 1) (w : World) :
    (sub64Row #[.int .u64 x, .int .u64 y, .int .u64 b]).run P w =
      .ok (.tuple #[.int .u64 (((x + 18446744073709551616 - y - b) % 18446744073709551616 : Nat) : Int), .int .u64 ((if x < y + b then 1 else 0 : Nat) : Int)]) w := by
  have : b = 0 ∨ b = 1 := by omega
  rcases this with rfl | rfl <;> rfl

theorem call_add64 (x y c : Nat) (hc : c ≤ 1) (w : World) : (callFunc 34 #[.int .u64 x, .int .u64 y, .int .u64 c]).run Try.prog w =
      .ok (.value (.tuple #[.int .u64 (((x + y + c) % 18446744073709551616 : Nat) : Int), .int .u64 (((x + y + c) / 18446744073709551616 : Nat) : Int)])) w := by
  rw [run_callFunc_extern Try.func34 (by kernel_rfl) (by kernel_rfl) (by kernel_rfl) (e := add64Row) (by kernel_rfl), run_add64Row _ x y c hc]
  rfl
theorem call_sub64 (x y b : Nat) (hb : b ≤ 1) (w : World) : (callFunc 36 #[.int .u64 x, .int .u64 y, .int .u64 b]).run Try.prog w =
      .ok (.value (.tuple #[.int .u64 (((x + 18446744073709551616 - y - b) % 18446744073709551616 : Nat) : Int), .int .u64 ((if x < y + b then 1 else 0 : Nat) : Int)])) w := by
  rw [run_callFunc_extern Try.func36 (by kernel_rfl) (by kernel_rfl) (by kernel_rfl) (e := sub64Row) (by kernel_rfl), run_sub64Row _ x y b hb]
  rfl

set_option maxHeartbeats 400000 in
theorem below_any (hi lo : Int) (w : World) : Calls Try.prog 35 #[.agg #[.int .i64 hi, .int .u64 lo]] w (Says w (.bool (decide (hi < 0)))) := by
  have H := hide (below_alloc w)
  go_enter Try.func35, Try.ntmps35
  go_wp2_with fail
  go_ret
  exact ⟨rfl, H.out _⟩

/-- what a sum with carry leaves -/
def AddIs (x y c s d : Nat) : Prop := s = (x + y + c) % 18446744073709551616 ∧ d = (x + y + c) / 18446744073709551616 ∧ d ≤ 1
def SubIs (x y b s d : Nat) : Prop := s = (x + 18446744073709551616 - y - b) % 18446744073709551616 ∧ (d = if x < y + b then 1 else 0) ∧ d ≤ 1
theorem AddIs.le {x y c s d : Nat} (h : AddIs x y c s d) : d ≤ 1 := by unfold AddIs at h; exact h.2.2
theorem SubIs.le {x y c s d : Nat} (h : SubIs x y c s d) : d ≤ 1 := by unfold SubIs at h; exact h.2.2
theorem ex_add64 (x y c : Nat) (hx : x < 18446744073709551616) (hy : y < 18446744073709551616) (hc : c ≤ 1) : ∃ s d : Nat, (∀ w, (callFunc 34 #[.int .u64 x, .int .u64 y, .int .u64 c]).run Try.prog w = .ok (.value (.tuple #[.int .u64 (s : Int), .int .u64 (d : Int)])) w) ∧ Hid (AddIs x y c s d) :=
  ⟨_, _, fun w => call_add64 x y c hc w, rfl, rfl, by omega⟩
theorem ex_add64_0 (x y : Nat) (hx : x < 18446744073709551616) (hy : y < 18446744073709551616) : ∃ s d : Nat, (∀ w, (callFunc 34 #[.int .u64 x, .int .u64 y, .int .u64 0]).run Try.prog w = .ok (.value (.tuple #[.int .u64 (s : Int), .int .u64 (d : Int)])) w) ∧ Hid (AddIs x y 0 s d) := ex_add64 x y 0 hx hy (by omega)
theorem ex_sub64 (x y b : Nat) (hb : b ≤ 1) : ∃ s d : Nat, (∀ w, (callFunc 36 #[.int .u64 x, .int .u64 y, .int .u64 b]).run Try.prog w = .ok (.value (.tuple #[.int .u64 (s : Int), .int .u64 (d : Int)])) w) ∧ Hid (SubIs x y b s d) :=
  ⟨_, _, fun w => call_sub64 x y b hb w, rfl, rfl, by split <;> omega⟩
theorem ex_sub64_0 (x y : Nat) : ∃ s d : Nat, (∀ w, (callFunc 36 #[.int .u64 x, .int .u64 y, .int .u64 0]).run Try.prog w = .ok (.value (.tuple #[.int .u64 (s : Int), .int .u64 (d : Int)])) w) ∧ Hid (SubIs x y 0 s d) := ex_sub64 x y 0 (by omega)
theorem ex_sub64_00 (y : Nat) : ∃ s d : Nat, (∀ w, (callFunc 36 #[.int .u64 0, .int .u64 y, .int .u64 0]).run Try.prog w = .ok (.value (.tuple #[.int .u64 (s : Int), .int .u64 (d : Int)])) w) ∧ Hid (SubIs 0 y 0 s d) := ex_sub64 0 y 0 (by omega)
theorem ex_sub64_0b (y b : Nat) (hb : b ≤ 1) : ∃ s d : Nat, (∀ w, (callFunc 36 #[.int .u64 0, .int .u64 y, .int .u64 b]).run Try.prog w = .ok (.value (.tuple #[.int .u64 (s : Int), .int .u64 (d : Int)])) w) ∧ Hid (SubIs 0 y b s d) := ex_sub64 0 y b hb

/-- a size: two halves below 2^64 -/
def Siz (hi lo u : Nat) : Prop := hi < 18446744073709551616 ∧ lo < 18446744073709551616 ∧ hi * 18446744073709551616 + lo = u
def SizPost (w : World) (u : Nat) (e : Ending) (w' : World) : Prop := ∃ hi lo : Nat, e = .returned (.agg #[.int .u64 hi, .int .u64 lo]) ∧ Siz hi lo u ∧ Below w.heap.size w w'
/-- a number of 128 bits: two halves -/
def Num (hi : Int) (lo : Nat) (z : Int) : Prop := -9223372036854775808 ≤ hi ∧ hi < 9223372036854775808 ∧ lo < 18446744073709551616 ∧ hi * 18446744073709551616 + lo = z
def NumPost (w : World) (z : Int) (e : Ending) (w' : World) : Prop := ∃ (hi : Int) (lo : Nat), e = .returned (.agg #[.int .i64 hi, .int .u64 lo]) ∧ Num hi lo z ∧ Below w.heap.size w w'
def NumPost2 (w : World) (b : Bool) (z : Int) (e : Ending) (w' : World) : Prop := ∃ (hi : Int) (lo : Nat), e = .returned (.tuple #[.agg #[.int .i64 hi, .int .u64 lo], .bool b]) ∧ Num hi lo z ∧ Below w.heap.size w w'

set_option maxRecDepth 100000 in
theorem turned_num {hi lo l1 b1 h1 b2 u : Nat} (h : Siz hi lo u) (e1 : SubIs 0 lo 0 l1 b1) (e2 : SubIs 0 hi b1 h1 b2) (hu : 0 < u) : Siz h1 l1 (340282366920938463463374607431768211456 - u) := by
  unfold Siz SubIs at *
  obtain ⟨a1, a2, a3⟩ := h
  obtain ⟨c1, c2, c3⟩ := e1
  obtain ⟨d1, _, _⟩ := e2
  have x1 : h1 < 18446744073709551616 := by rw [d1]; exact Nat.mod_lt _ (by decide)
  have x2 : l1 < 18446744073709551616 := by rw [c1]; exact Nat.mod_lt _ (by decide)
  refine ⟨x1, x2, ?_⟩
  subst a3
  clear x1 x2
  split at c2 <;> omega

set_option maxHeartbeats 400000 in
theorem turned_any (hi lo u : Nat) (h : Siz hi lo u) (hu : 0 < u) (w : World) :
    Calls Try.prog 51 #[.agg #[.int .u64 hi, .int .u64 lo]] w (SizPost w (340282366920938463463374607431768211456 - u)) := by
  obtain ⟨l1, b1, hs1, e1⟩ := ex_sub64_00 lo
  obtain ⟨h1, b2, hs2, e2⟩ := ex_sub64_0b hi b1 (SubIs.le e1.out)
  have HN := hide (turned_num h e1.out e2.out hu)
  have H := hide (below_alloc2 w)
  generalize 340282366920938463463374607431768211456 - u = u2 at *
  clear h e1 e2 hu
  go_enter Try.func51, Try.ntmps51
  go_wp2_with fail
  refine bodyPost_ret (v := .agg #[.int .u64 h1, .int .u64 l1]) (by simp [results, Try.results51, go_sem]) rfl ⟨h1, l1, rfl, HN.out, H.out _ _⟩

def IsU (x : Int) (U : Nat) : Prop := U < 18446744073709551616 ∧ (U : Int) = x % 18446744073709551616
theorem ex_wrapu (x : Int) : ∃ U : Nat, IntKind.u64.wrap x = (U : Int) ∧ Hid (IsU x U) := by
  refine ⟨(x % 18446744073709551616).toNat, ?_, ?_⟩
  · rw [IntKind.wrap_u64]; omega
  · show IsU _ _; unfold IsU; omega

set_option maxHeartbeats 400000 in
theorem WOf_any (x : Int) (w : World) (h1 : -9223372036854775808 ≤ x) (h2 : x ≤ 9223372036854775807) :
    Calls Try.prog 16 #[.int .i64 x] w (NumPost w x) := by
  have H := hide (below_alloc w)
  by_cases h0 : 0 ≤ x
  · obtain ⟨X, rfl⟩ := Int.eq_ofNat_of_zero_le h0
    have HN := hide (show Num ((X : Int) / 9223372036854775808) X X by unfold Num; omega)
    go_enter Try.func16, Try.ntmps16
    go_wp2_with fail
    exact bodyPost_ret (v := .agg #[.int .i64 ((X : Int) / 9223372036854775808), .int .u64 (X : Int)]) (by simp [results, Try.results16, go_sem]) rfl ⟨_, _, rfl, HN.out, H.out _⟩
  · obtain ⟨X, hX⟩ : ∃ X : Nat, x = -((X : Int) + 1) := ⟨(-x - 1).toNat, by omega⟩
    subst hX
    obtain ⟨U, hU, HU⟩ := ex_wrapu (-((X : Int) + 1))
    have HN := hide (show Num (-((X : Int) + 1) / 9223372036854775808) U (-((X : Int) + 1)) by have := HU.out; unfold IsU at this; unfold Num; omega)
    have hX : (X : Int) ≤ 9223372036854775807 := by omega
    clear h1 h2 h0
    go_enter Try.func16, Try.ntmps16
    go_wp2_with fail
    exact bodyPost_ret (v := .agg #[.int .i64 (-((X : Int) + 1) / 9223372036854775808), .int .u64 (U : Int)]) (by simp [results, Try.results16, go_sem]) rfl ⟨_, _, rfl, HN.out, H.out _⟩

set_option maxHeartbeats 400000 in
theorem sizeOf_pos (hi : Int) (lo u : Nat) (h : Num hi lo u) (w : World) :
    Calls Try.prog 42 #[.agg #[.int .i64 hi, .int .u64 lo]] w (SizPost w u) := by
  have hp : 0 ≤ hi := by unfold Num at h; omega
  obtain ⟨X, rfl⟩ := Int.eq_ofNat_of_zero_le hp
  have HN := hide (show Siz X lo u by unfold Num at h; unfold Siz; omega)
  have hX : (X : Int) ≤ 9223372036854775807 := by unfold Num at h; omega
  have hd : decide ((X : Int) < 0) = false := by rw [decide_eq_false_iff_not]; omega
  have H := hide (below_alloc3 w)
  clear h hp
  go_enter Try.func42, Try.ntmps42
  go_wp2_with (go_at_call 35; refine (below_any _ _ _).mono ?_; rintro e w1 ⟨rfl, hb⟩; obtain ⟨hc, hf⟩ := bcell hb; have hz := hb.size; simp at hz; have HB := hide hb; clear hb)
  refine bodyPost_ret (v := .agg #[.int .u64 (X : Int), .int .u64 lo]) (by simp [results, Try.results42, go_sem, hc]) rfl ⟨_, _, rfl, HN.out, ?_⟩
  exact below_set2 ((H.out _ _ _).trans (HB.out.mono (by simp; omega))) (by omega) _ _

set_option maxHeartbeats 400000 in
theorem sizeOf_neg (hi : Int) (lo u : Nat) (h : Num hi lo (-(u : Int))) (hu : 0 < u) (w : World) :
    Calls Try.prog 42 #[.agg #[.int .i64 hi, .int .u64 lo]] w (SizPost w u) := by
  obtain ⟨U, hU, HU⟩ := ex_wrapu hi
  have hu2 : u ≤ 170141183460469231731687303715884105728 := by unfold Num at h; omega
  have HN := hide (show Siz U lo (340282366920938463463374607431768211456 - u) by have h2 := HU.out; unfold IsU at h2; unfold Num at h; unfold Siz; omega)
  have HS := Lib.hid (show 340282366920938463463374607431768211456 - (340282366920938463463374607431768211456 - u) = u by omega)
  have HS2 := hide (show 0 < 340282366920938463463374607431768211456 - u by omega)
  have hd : decide (hi < 0) = true := by rw [decide_eq_true_iff]; unfold Num at h; omega
  have H := hide (below_alloc3 w)
  clear h hu hu2
  go_enter Try.func42, Try.ntmps42
  go_wp2_with (go_at_call 35; refine (below_any _ _ _).mono ?_; rintro e w1 ⟨rfl, hb⟩; obtain ⟨hc, hf⟩ := bcell hb; have hz := hb.size; simp at hz; have HB := hide hb; clear hb)
  refine (turned_any U lo _ HN.out HS2.out _).mono ?_
  rw [HS.out]
  rintro e w2 ⟨h2, l2, rfl, hS, hb2⟩
  obtain ⟨hc2, hf2⟩ := bcell hb2
  have hz2 := hb2.size
  have hz3 : w.heap.size + 1 < w1.heap.size := by omega
  have HB2 := hide hb2
  have hZ := hide hS
  clear hb2 hS
  go_wp2_with fail
  refine bodyPost_ret (v := .agg #[.int .u64 h2, .int .u64 l2]) (by simp [results, Try.results42, go_sem, hc2, hc, hz3]) rfl ⟨_, _, rfl, hZ.out, ?_⟩
  exact below_set2 (((H.out _ _ _).trans (HB.out.mono (by simp; omega))).trans (HB2.out.mono (by omega))) (by omega) _ _

/-- no number, and false -/
theorem Num_zero : Num 0 0 0 := by unfold Num; omega

set_option maxHeartbeats 400000 in
set_option maxRecDepth 100000 in
theorem plus_yes (hi lo u : Nat) (h : Siz hi lo u) (hu : u < 170141183460469231731687303715884105728) (w : World) :
    Calls Try.prog 52 #[.agg #[.int .u64 hi, .int .u64 lo]] w (NumPost2 w true u) := by
  have HN := hide (show Num hi lo u by unfold Siz at h; unfold Num; omega)
  have h1 : decide ((hi : Int) ≥ 9223372036854775808) = false := by rw [decide_eq_false_iff_not]; unfold Siz at h; omega
  have h2 : IntKind.i64.wrap (hi : Int) = (hi : Int) := IntWalk.i64_in _ (by unfold Siz at h; omega)
  have H := hide (below_alloc2 w)
  clear h hu
  go_enter Try.func52, Try.ntmps52
  go_wp2_with fail
  exact bodyPost_ret (v := .tuple #[.agg #[.int .i64 hi, .int .u64 lo], .bool true]) (by simp [results, Try.results52, go_sem]) rfl ⟨_, _, rfl, HN.out, H.out _ _⟩

set_option maxHeartbeats 400000 in
set_option maxRecDepth 100000 in
theorem plus_no (hi lo u : Nat) (h : Siz hi lo u) (hu : 170141183460469231731687303715884105728 ≤ u) (w : World) :
    Calls Try.prog 52 #[.agg #[.int .u64 hi, .int .u64 lo]] w (NumPost2 w false 0) := by
  have h1 : decide ((hi : Int) ≥ 9223372036854775808) = true := by rw [decide_eq_true_iff]; unfold Siz at h; omega
  have H := hide (below_alloc2 w)
  clear h hu
  go_enter Try.func52, Try.ntmps52
  go_wp2_with fail
  exact bodyPost_ret (v := .tuple #[.agg #[.int .i64 0, .int .u64 0], .bool false]) (by simp [results, Try.results52, go_sem]) rfl ⟨0, 0, rfl, Num_zero, H.out _ _⟩

set_option maxRecDepth 100000 in
theorem turned_num0 {l1 b1 h1 b2 : Nat} (e1 : SubIs 0 0 0 l1 b1) (e2 : SubIs 0 0 b1 h1 b2) : Siz h1 l1 0 := by
  unfold Siz SubIs at *
  obtain ⟨c1, c2, _⟩ := e1
  obtain ⟨d1, _, _⟩ := e2
  simp at c2
  subst c2
  simp at c1 d1
  subst c1 d1
  simp

set_option maxHeartbeats 400000 in
theorem turned_zero (w : World) :
    Calls Try.prog 51 #[.agg #[.int .u64 ((0 : Nat) : Int), .int .u64 ((0 : Nat) : Int)]] w (SizPost w 0) := by
  obtain ⟨l1, b1, hs1, e1⟩ := ex_sub64_00 0
  obtain ⟨h1, b2, hs2, e2⟩ := ex_sub64_0b 0 b1 (SubIs.le e1.out)
  simp only [Int.natCast_zero] at hs1 hs2 ⊢
  have HN := hide (turned_num0 e1.out e2.out)
  have H := hide (below_alloc2 w)
  clear e1 e2
  go_enter Try.func51, Try.ntmps51
  go_wp2_with fail
  refine bodyPost_ret (v := .agg #[.int .u64 h1, .int .u64 l1]) (by simp [results, Try.results51, go_sem]) rfl ⟨h1, l1, rfl, HN.out, H.out _ _⟩

set_option maxHeartbeats 400000 in
set_option maxRecDepth 100000 in
theorem minus_no (hi lo u : Nat) (h : Siz hi lo u) (hu : 170141183460469231731687303715884105728 < u) (w : World) :
    Calls Try.prog 53 #[.agg #[.int .u64 hi, .int .u64 lo]] w (NumPost2 w false 0) := by
  have H := hide (below_alloc2 w)
  by_cases hh : 9223372036854775808 < hi
  · have h1 : decide ((hi : Int) > 9223372036854775808) = true := by rw [decide_eq_true_iff]; omega
    clear h hu hh
    go_enter Try.func53, Try.ntmps53
    go_wp2_with fail
    exact bodyPost_ret (v := .tuple #[.agg #[.int .i64 0, .int .u64 0], .bool false]) (by simp [results, Try.results53, go_sem]) rfl ⟨0, 0, rfl, Num_zero, H.out _ _⟩
  · have h1 : decide ((hi : Int) > 9223372036854775808) = false := by rw [decide_eq_false_iff_not]; omega
    have h2 : ((hi : Int) == 9223372036854775808) = true := by rw [beq_iff_eq]; unfold Siz at h; omega
    have h3 : 0 < lo := by unfold Siz at h; omega
    clear h hu hh
    go_enter Try.func53, Try.ntmps53
    go_wp2_with fail
    exact bodyPost_ret (v := .tuple #[.agg #[.int .i64 0, .int .u64 0], .bool false]) (by simp [results, Try.results53, go_sem]) rfl ⟨0, 0, rfl, Num_zero, H.out _ _⟩

theorem minus_num {th tl u : Nat} (hT : Siz th tl (340282366920938463463374607431768211456 - u)) (hu : 0 < u) (hu2 : u ≤ 170141183460469231731687303715884105728) :
    ∃ I : Int, IntKind.i64.wrap (th : Int) = I ∧ Num I tl (-(u : Int)) := by
  refine ⟨(th : Int) - 18446744073709551616, ?_, ?_⟩
  · rw [IntKind.wrap_i64]; unfold Siz at hT; omega
  · unfold Siz at hT; unfold Num; omega

set_option maxHeartbeats 800000 in
set_option maxRecDepth 100000 in
theorem minus_yes (hi lo u : Nat) (h : Siz hi lo u) (hu : 0 < u) (hu2 : u ≤ 170141183460469231731687303715884105728) (w : World) :
    Calls Try.prog 53 #[.agg #[.int .u64 hi, .int .u64 lo]] w (NumPost2 w true (-(u : Int))) := by
  have H := hide (below_alloc2 w)
  have h1 : decide ((hi : Int) > 9223372036854775808) = false := by rw [decide_eq_false_iff_not]; unfold Siz at h; omega
  have HS := hide h
  by_cases hh : hi < 9223372036854775808
  · have h2 : ((hi : Int) == 9223372036854775808) = false := by rw [beq_eq_false_iff_ne]; omega
    clear h hh
    go_enter Try.func53, Try.ntmps53
    go_wp2_with fail
    refine (turned_any hi lo u HS.out hu _).mono ?_
    rintro e w1 ⟨th, tl, rfl, hT, hb⟩
    obtain ⟨hc, hf⟩ := bcell hb
    have hca := bcell1 hb
    have hfa := bfrozen hb
    have hz := hb.size
    simp at hz
    obtain ⟨I, hI, hN⟩ := minus_num hT hu hu2
    have HB := hide hb
    have HN := hide hN
    clear hb hT hN
    go_wp2_with fail
    refine bodyPost_ret (v := .tuple #[.agg #[.int .i64 I, .int .u64 tl], .bool true]) (by simp [results, Try.results53, go_sem, hca]) rfl ⟨_, _, rfl, HN.out, ?_⟩
    exact below_set2 (((H.out _ _).trans (HB.out.mono (by simp; omega))).alloc (by omega) _) (by omega) _ _
  · have h2 : ((hi : Int) == 9223372036854775808) = true := by rw [beq_iff_eq]; unfold Siz at h; omega
    have h3 : lo = 0 := by unfold Siz at h; omega
    subst h3
    clear h hh
    go_enter Try.func53, Try.ntmps53
    go_wp2_with fail
    refine (turned_any hi 0 u HS.out hu _).mono ?_
    rintro e w1 ⟨th, tl, rfl, hT, hb⟩
    obtain ⟨hc, hf⟩ := bcell hb
    have hca := bcell1 hb
    have hfa := bfrozen hb
    have hz := hb.size
    simp at hz
    obtain ⟨I, hI, hN⟩ := minus_num hT hu hu2
    have HB := hide hb
    have HN := hide hN
    clear hb hT hN
    go_wp2_with fail
    refine bodyPost_ret (v := .tuple #[.agg #[.int .i64 I, .int .u64 tl], .bool true]) (by simp [results, Try.results53, go_sem, hca]) rfl ⟨_, _, rfl, HN.out, ?_⟩
    exact below_set2 (((H.out _ _).trans (HB.out.mono (by simp; omega))).alloc (by omega) _) (by omega) _ _

set_option maxHeartbeats 800000 in
set_option maxRecDepth 100000 in
theorem minus_zero (w : World) :
    Calls Try.prog 53 #[.agg #[.int .u64 ((0 : Nat) : Int), .int .u64 ((0 : Nat) : Int)]] w (NumPost2 w true 0) := by
  have H := hide (below_alloc2 w)
  have HT := hide turned_zero
  simp only [Int.natCast_zero] at HT ⊢
  go_enter Try.func53, Try.ntmps53
  go_wp2_with fail
  refine (HT.out _).mono ?_
  rintro e w1 ⟨th, tl, rfl, hT, hb⟩
  obtain ⟨rfl, rfl⟩ : th = 0 ∧ tl = 0 := by unfold Siz at hT; omega
  simp only [Int.natCast_zero]
  obtain ⟨hc, hf⟩ := bcell hb
  have hca := bcell1 hb
  have hfa := bfrozen hb
  have hz := hb.size
  simp at hz
  have HB := hide hb
  clear hb hT
  go_wp2_with fail
  refine bodyPost_ret (v := .tuple #[.agg #[.int .i64 0, .int .u64 0], .bool true]) (by simp [results, Try.results53, go_sem, hca]) rfl ⟨0, 0, rfl, Num_zero, ?_⟩
  exact below_set2 (((H.out _ _).trans (HB.out.mono (by simp; omega))).alloc (by omega) _) (by omega) _ _

set_option maxHeartbeats 800000 in
theorem signed_pos (hi lo : Int) (b : Bool) (z : Int) (h : ∀ w, Calls Try.prog 52 #[.agg #[.int .u64 hi, .int .u64 lo]] w (NumPost2 w b z)) (w : World) :
    Calls Try.prog 44 #[.agg #[.int .u64 hi, .int .u64 lo], .bool false] w (NumPost2 w b z) := by
  have hmf : ∀ (fn : Fn) (first cap : Array Value) (w : World), (Instr.makeFunc fn first cap).run Try.prog w = .ok (.func fn first cap) w := fun _ _ _ _ => rfl
  have H := hide (below_alloc2 w)
  have HC := hide h
  clear h
  go_enter Try.func44, Try.ntmps44
  go_wp2_with fail
  refine (HC.out _).mono ?_
  rintro e w1 ⟨h1, l1, rfl, hN, hb⟩
  obtain ⟨hc, hf⟩ := bcell hb
  have hz := hb.size
  simp at hz
  have HB := hide hb
  have HN := hide hN
  clear hb hN hmf
  go_wp2_with fail
  refine bodyPost_ret (v := .tuple #[.agg #[.int .i64 h1, .int .u64 l1], .bool b]) (by simp [results, Try.results44, go_sem, hc]) rfl ⟨_, _, rfl, HN.out, ?_⟩
  exact below_set2 ((H.out _ _).trans (HB.out.mono (by simp; omega))) (by omega) _ _

set_option maxHeartbeats 800000 in
theorem signed_neg (hi lo : Int) (b : Bool) (z : Int) (h : ∀ w, Calls Try.prog 53 #[.agg #[.int .u64 hi, .int .u64 lo]] w (NumPost2 w b z)) (w : World) :
    Calls Try.prog 44 #[.agg #[.int .u64 hi, .int .u64 lo], .bool true] w (NumPost2 w b z) := by
  have hmf : ∀ (fn : Fn) (first cap : Array Value) (w : World), (Instr.makeFunc fn first cap).run Try.prog w = .ok (.func fn first cap) w := fun _ _ _ _ => rfl
  have H := hide (below_alloc2 w)
  have HC := hide h
  clear h
  go_enter Try.func44, Try.ntmps44
  go_wp2_with fail
  refine (HC.out _).mono ?_
  rintro e w1 ⟨h1, l1, rfl, hN, hb⟩
  obtain ⟨hc, hf⟩ := bcell hb
  have hz := hb.size
  simp at hz
  have HB := hide hb
  have HN := hide hN
  clear hb hN hmf
  go_wp2_with fail
  refine bodyPost_ret (v := .tuple #[.agg #[.int .i64 h1, .int .u64 l1], .bool b]) (by simp [results, Try.results44, go_sem, hc]) rfl ⟨_, _, rfl, HN.out, ?_⟩
  exact below_set2 ((H.out _ _).trans (HB.out.mono (by simp; omega))) (by omega) _ _

end Go.Proofs.Ytoaaecggfaaplaa
