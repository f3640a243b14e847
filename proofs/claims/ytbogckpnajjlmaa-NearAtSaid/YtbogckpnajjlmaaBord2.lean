/-
Contracts of package border: Check, Index, Period. No statement is proved here.
-/
import Derived.Test.YtbogckpnajjlmaaBord1
import Derived.Laws.EntriesVeiled
namespace Go.Proofs.Ytbogckpnajjlmaa
open Go.RowKit

def okM (mode n : Int) : Bool := decide (1 ≤ n ∧ 0 ≤ mode ∧ mode ≤ 3)
def idxB (mode i n : Int) : Bool := okM mode n && (decide (0 ≤ i ∧ i < n) || !decide (mode = 0))
def idxV (mode i n : Int) : Int := if okM mode n = false then 0 else if 0 ≤ i ∧ i < n then i else if mode = 0 then 0 else if mode = 1 then (if i < 0 then 0 else n - 1) else if mode = 2 then i % n else mirV i n

def bchkZ (mode : Int) : Int := if 0 ≤ mode ∧ mode ≤ 3 then 0 else 10
theorem BCheck_any (mode a b c d : Int) (w : World) : Calls Try.prog 56 #[.agg #[.int .i64 mode, .int .u8 a, .int .u8 b, .int .u8 c, .int .u8 d]] w (Says w (.int .i64 (bchkZ mode))) := by
  have H := hide (below_alloc w)
  by_cases h1 : mode < 0
  · rw [show bchkZ mode = 10 from if_neg (by omega)]
    go_enter Try.func56, Try.ntmps56
    go_wp2_with fail
    go_ret
    exact ⟨rfl, H.out _⟩
  · by_cases h2 : 3 < mode
    · rw [show bchkZ mode = 10 from if_neg (by omega)]
      go_enter Try.func56, Try.ntmps56
      go_wp2_with fail
      go_ret
      exact ⟨rfl, H.out _⟩
    · rw [show bchkZ mode = 0 from if_pos (by omega)]
      go_enter Try.func56, Try.ntmps56
      go_wp2_with fail
      go_ret
      exact ⟨rfl, H.out _⟩
theorem modes_any (w : World) : Calls Try.prog 77 #[] w (Says w (.agg #[.func (Fn.func 97) #[] #[], .func (Fn.func 98) #[] #[], .func (Fn.func 99) #[] #[], .func (Fn.func 100) #[] #[]])) := by
  have H := hide (below_alloc w)
  go_enter Try.func77, Try.ntmps77
  go_wp2_with fail
  refine bodyPost_ret (v := .agg #[.func (Fn.func 97) #[] #[], .func (Fn.func 98) #[] #[], .func (Fn.func 99) #[] #[], .func (Fn.func 100) #[] #[]]) (by simp [results, Try.results77, go_sem]) rfl ⟨rfl, H.out _⟩

theorem at0 (w : World) : (Instr.index 104 (.agg #[.func (Fn.func 97) #[] #[], .func (Fn.func 98) #[] #[], .func (Fn.func 99) #[] #[], .func (Fn.func 100) #[] #[]]) (.int .i64 0)).run Try.prog w = Result.ok (.func (Fn.func 97) #[] #[]) w := by kernel_rfl
theorem at1 (w : World) : (Instr.index 104 (.agg #[.func (Fn.func 97) #[] #[], .func (Fn.func 98) #[] #[], .func (Fn.func 99) #[] #[], .func (Fn.func 100) #[] #[]]) (.int .i64 1)).run Try.prog w = Result.ok (.func (Fn.func 98) #[] #[]) w := by kernel_rfl
theorem at2 (w : World) : (Instr.index 104 (.agg #[.func (Fn.func 97) #[] #[], .func (Fn.func 98) #[] #[], .func (Fn.func 99) #[] #[], .func (Fn.func 100) #[] #[]]) (.int .i64 2)).run Try.prog w = Result.ok (.func (Fn.func 99) #[] #[]) w := by kernel_rfl
theorem at3 (w : World) : (Instr.index 104 (.agg #[.func (Fn.func 97) #[] #[], .func (Fn.func 98) #[] #[], .func (Fn.func 99) #[] #[], .func (Fn.func 100) #[] #[]]) (.int .i64 3)).run Try.prog w = Result.ok (.func (Fn.func 100) #[] #[]) w := by kernel_rfl

def Told2 (w : World) (x : Int) (b : Bool) (e : Ending) (w' : World) : Prop := e = .returned (.tuple #[.int .i64 x, .bool b]) ∧ Below w.heap.size w w'
set_option maxHeartbeats 1000000 in
theorem Index_go0 (i n x : Int) (b : Bool) (hn : 1 ≤ n) (ho : ¬ (0 ≤ i ∧ i < n)) (hX : ∀ w, Calls Try.prog 97 #[.int .i64 n, .int .i64 i] w (Pair w x b)) (w : World) :
    Calls Try.prog 52 #[.int .i64 0, .int .i64 i, .int .i64 n] w (Told2 w x b) := by
  have HC := hide (fun w => BCheck_any 0 0 0 0 0 w)
  rw [show bchkZ 0 = 0 by decide] at HC
  have HM := hide modes_any
  have HX := hide hX
  have ha := at0
  clear hX
  by_cases h3 : 0 ≤ i
  · have h4 : ¬ i < n := fun q => ho ⟨h3, q⟩
    clear ho
    go_enter Try.func52, Try.ntmps52
    go_wp2_with fail
    refine (HC.out _).mono ?_
    rintro e w1 ⟨rfl, hb⟩
    have HB := hide hb
    clear hb
    go_wp2_with fail
    refine (HM.out _).mono ?_
    rintro e w2 ⟨rfl, hb⟩
    have HB2 := hide (HB.out.trans (hb.mono HB.out.size))
    clear hb
    go_wp2_with fail
    refine (HX.out _).mono ?_
    rintro e w3 ⟨rfl, rfl⟩
    go_wp2_with fail
    refine bodyPost_ret (v := .tuple #[.int .i64 x, .bool b]) (by simp [results, Try.results52, go_sem]) rfl ⟨rfl, HB2.out⟩
  · clear ho
    go_enter Try.func52, Try.ntmps52
    go_wp2_with fail
    refine (HC.out _).mono ?_
    rintro e w1 ⟨rfl, hb⟩
    have HB := hide hb
    clear hb
    go_wp2_with fail
    refine (HM.out _).mono ?_
    rintro e w2 ⟨rfl, hb⟩
    have HB2 := hide (HB.out.trans (hb.mono HB.out.size))
    clear hb
    go_wp2_with fail
    refine (HX.out _).mono ?_
    rintro e w3 ⟨rfl, rfl⟩
    go_wp2_with fail
    refine bodyPost_ret (v := .tuple #[.int .i64 x, .bool b]) (by simp [results, Try.results52, go_sem]) rfl ⟨rfl, HB2.out⟩

set_option maxHeartbeats 1000000 in
theorem Index_go1 (i n x : Int) (b : Bool) (hn : 1 ≤ n) (ho : ¬ (0 ≤ i ∧ i < n)) (hX : ∀ w, Calls Try.prog 98 #[.int .i64 n, .int .i64 i] w (Pair w x b)) (w : World) :
    Calls Try.prog 52 #[.int .i64 1, .int .i64 i, .int .i64 n] w (Told2 w x b) := by
  have HC := hide (fun w => BCheck_any 1 0 0 0 0 w)
  rw [show bchkZ 1 = 0 by decide] at HC
  have HM := hide modes_any
  have HX := hide hX
  have ha := at1
  clear hX
  by_cases h3 : 0 ≤ i
  · have h4 : ¬ i < n := fun q => ho ⟨h3, q⟩
    clear ho
    go_enter Try.func52, Try.ntmps52
    go_wp2_with fail
    refine (HC.out _).mono ?_
    rintro e w1 ⟨rfl, hb⟩
    have HB := hide hb
    clear hb
    go_wp2_with fail
    refine (HM.out _).mono ?_
    rintro e w2 ⟨rfl, hb⟩
    have HB2 := hide (HB.out.trans (hb.mono HB.out.size))
    clear hb
    go_wp2_with fail
    refine (HX.out _).mono ?_
    rintro e w3 ⟨rfl, rfl⟩
    go_wp2_with fail
    refine bodyPost_ret (v := .tuple #[.int .i64 x, .bool b]) (by simp [results, Try.results52, go_sem]) rfl ⟨rfl, HB2.out⟩
  · clear ho
    go_enter Try.func52, Try.ntmps52
    go_wp2_with fail
    refine (HC.out _).mono ?_
    rintro e w1 ⟨rfl, hb⟩
    have HB := hide hb
    clear hb
    go_wp2_with fail
    refine (HM.out _).mono ?_
    rintro e w2 ⟨rfl, hb⟩
    have HB2 := hide (HB.out.trans (hb.mono HB.out.size))
    clear hb
    go_wp2_with fail
    refine (HX.out _).mono ?_
    rintro e w3 ⟨rfl, rfl⟩
    go_wp2_with fail
    refine bodyPost_ret (v := .tuple #[.int .i64 x, .bool b]) (by simp [results, Try.results52, go_sem]) rfl ⟨rfl, HB2.out⟩

set_option maxHeartbeats 1000000 in
theorem Index_go2 (i n x : Int) (b : Bool) (hn : 1 ≤ n) (ho : ¬ (0 ≤ i ∧ i < n)) (hX : ∀ w, Calls Try.prog 99 #[.int .i64 n, .int .i64 i] w (Pair w x b)) (w : World) :
    Calls Try.prog 52 #[.int .i64 2, .int .i64 i, .int .i64 n] w (Told2 w x b) := by
  have HC := hide (fun w => BCheck_any 2 0 0 0 0 w)
  rw [show bchkZ 2 = 0 by decide] at HC
  have HM := hide modes_any
  have HX := hide hX
  have ha := at2
  clear hX
  by_cases h3 : 0 ≤ i
  · have h4 : ¬ i < n := fun q => ho ⟨h3, q⟩
    clear ho
    go_enter Try.func52, Try.ntmps52
    go_wp2_with fail
    refine (HC.out _).mono ?_
    rintro e w1 ⟨rfl, hb⟩
    have HB := hide hb
    clear hb
    go_wp2_with fail
    refine (HM.out _).mono ?_
    rintro e w2 ⟨rfl, hb⟩
    have HB2 := hide (HB.out.trans (hb.mono HB.out.size))
    clear hb
    go_wp2_with fail
    refine (HX.out _).mono ?_
    rintro e w3 ⟨rfl, rfl⟩
    go_wp2_with fail
    refine bodyPost_ret (v := .tuple #[.int .i64 x, .bool b]) (by simp [results, Try.results52, go_sem]) rfl ⟨rfl, HB2.out⟩
  · clear ho
    go_enter Try.func52, Try.ntmps52
    go_wp2_with fail
    refine (HC.out _).mono ?_
    rintro e w1 ⟨rfl, hb⟩
    have HB := hide hb
    clear hb
    go_wp2_with fail
    refine (HM.out _).mono ?_
    rintro e w2 ⟨rfl, hb⟩
    have HB2 := hide (HB.out.trans (hb.mono HB.out.size))
    clear hb
    go_wp2_with fail
    refine (HX.out _).mono ?_
    rintro e w3 ⟨rfl, rfl⟩
    go_wp2_with fail
    refine bodyPost_ret (v := .tuple #[.int .i64 x, .bool b]) (by simp [results, Try.results52, go_sem]) rfl ⟨rfl, HB2.out⟩

set_option maxHeartbeats 1000000 in
theorem Index_go3 (i n x : Int) (b : Bool) (hn : 1 ≤ n) (ho : ¬ (0 ≤ i ∧ i < n)) (hX : ∀ w, Calls Try.prog 100 #[.int .i64 n, .int .i64 i] w (Pair w x b)) (w : World) :
    Calls Try.prog 52 #[.int .i64 3, .int .i64 i, .int .i64 n] w (Told2 w x b) := by
  have HC := hide (fun w => BCheck_any 3 0 0 0 0 w)
  rw [show bchkZ 3 = 0 by decide] at HC
  have HM := hide modes_any
  have HX := hide hX
  have ha := at3
  clear hX
  by_cases h3 : 0 ≤ i
  · have h4 : ¬ i < n := fun q => ho ⟨h3, q⟩
    clear ho
    go_enter Try.func52, Try.ntmps52
    go_wp2_with fail
    refine (HC.out _).mono ?_
    rintro e w1 ⟨rfl, hb⟩
    have HB := hide hb
    clear hb
    go_wp2_with fail
    refine (HM.out _).mono ?_
    rintro e w2 ⟨rfl, hb⟩
    have HB2 := hide (HB.out.trans (hb.mono HB.out.size))
    clear hb
    go_wp2_with fail
    refine (HX.out _).mono ?_
    rintro e w3 ⟨rfl, rfl⟩
    go_wp2_with fail
    refine bodyPost_ret (v := .tuple #[.int .i64 x, .bool b]) (by simp [results, Try.results52, go_sem]) rfl ⟨rfl, HB2.out⟩
  · clear ho
    go_enter Try.func52, Try.ntmps52
    go_wp2_with fail
    refine (HC.out _).mono ?_
    rintro e w1 ⟨rfl, hb⟩
    have HB := hide hb
    clear hb
    go_wp2_with fail
    refine (HM.out _).mono ?_
    rintro e w2 ⟨rfl, hb⟩
    have HB2 := hide (HB.out.trans (hb.mono HB.out.size))
    clear hb
    go_wp2_with fail
    refine (HX.out _).mono ?_
    rintro e w3 ⟨rfl, rfl⟩
    go_wp2_with fail
    refine bodyPost_ret (v := .tuple #[.int .i64 x, .bool b]) (by simp [results, Try.results52, go_sem]) rfl ⟨rfl, HB2.out⟩

theorem Index_none (m i n : Int) (h : n < 1 ∨ ¬ (0 ≤ m ∧ m ≤ 3)) (w : World) : Calls Try.prog 52 #[.int .i64 m, .int .i64 i, .int .i64 n] w (Told2 w 0 false) := by
  have HC := hide (fun w => BCheck_any m 0 0 0 0 w)
  by_cases h1 : n < 1
  · clear h
    go_enter Try.func52, Try.ntmps52
    go_wp2_with fail
    refine bodyPost_ret (v := .tuple #[.int .i64 0, .bool false]) (by simp [results, Try.results52, go_sem]) rfl ⟨rfl, Below.refl _ _⟩
  · rw [show bchkZ m = 10 from if_neg (by omega)] at HC
    clear h
    go_enter Try.func52, Try.ntmps52
    go_wp2_with fail
    refine (HC.out _).mono ?_
    rintro e w1 ⟨rfl, hb⟩
    have HB := hide hb
    clear hb
    go_wp2_with fail
    refine bodyPost_ret (v := .tuple #[.int .i64 0, .bool false]) (by simp [results, Try.results52, go_sem]) rfl ⟨rfl, HB.out⟩
theorem Index_in (m i n : Int) (hm : 0 ≤ m ∧ m ≤ 3) (h3 : 0 ≤ i) (h4 : i < n) (hi : i ≤ 9223372036854775807) (w : World) : Calls Try.prog 52 #[.int .i64 m, .int .i64 i, .int .i64 n] w (Told2 w i true) := by
  have HC := hide (fun w => BCheck_any m 0 0 0 0 w)
  rw [show bchkZ m = 0 from if_pos hm] at HC
  clear hm
  go_enter Try.func52, Try.ntmps52
  go_wp2_with fail
  refine (HC.out _).mono ?_
  rintro e w1 ⟨rfl, hb⟩
  have HB := hide hb
  clear hb
  go_wp2_with fail
  refine bodyPost_ret (v := .tuple #[.int .i64 i, .bool true]) (by simp [results, Try.results52, go_sem]) rfl ⟨rfl, HB.out⟩

theorem Index_any (m i n : Int) (hn : n ≤ 9223372036854775807) (hi : -9223372036854775808 ≤ i ∧ i ≤ 9223372036854775807) (w : World) : Calls Try.prog 52 #[.int .i64 m, .int .i64 i, .int .i64 n] w (Told2 w (idxV m i n) (idxB m i n)) := by
  by_cases h : n < 1 ∨ ¬ (0 ≤ m ∧ m ≤ 3)
  · have ho : okM m n = false := by simp [okM]; omega
    rw [show idxV m i n = 0 by simp [idxV, ho], show idxB m i n = false by simp [idxB, ho]]
    exact Index_none m i n h w
  · have ho : okM m n = true := by simp [okM]; omega
    by_cases h3 : 0 ≤ i ∧ i < n
    · rw [show idxV m i n = i by simp [idxV, ho, h3], show idxB m i n = true by simp [idxB, ho, h3]]
      exact Index_in m i n (by omega) h3.1 h3.2 hi.2 w
    · have hx : idxV m i n = if m = 0 then 0 else if m = 1 then (if i < 0 then 0 else n - 1) else if m = 2 then i % n else mirV i n := by
        unfold idxV; rw [ho, if_neg (by decide), if_neg h3]
      have hb : idxB m i n = !decide (m = 0) := by unfold idxB; rw [ho, decide_eq_false h3]; simp
      rw [hx, hb]
      rcases (show m = 0 ∨ m = 1 ∨ m = 2 ∨ m = 3 by omega) with rfl | rfl | rfl | rfl
      · exact Index_go0 i n 0 false (by omega) h3 (fun w => none_any n i w) w
      · exact Index_go1 i n _ true (by omega) h3 (fun w => clamp_any n i (by omega) w) w
      · exact Index_go2 i n _ true (by omega) h3 (fun w => wrap_any n i (by omega) w) w
      · exact Index_go3 i n _ true (by omega) h3 (fun w => mirror_any n i (by omega) hi w) w

end Go.Proofs.Ytbogckpnajjlmaa
