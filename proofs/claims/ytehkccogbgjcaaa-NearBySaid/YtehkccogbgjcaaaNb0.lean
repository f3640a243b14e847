/-
Contracts of near's By, of what notes what it is asked for. No statement is proved here.
-/
import Derived.Test.YtehkccogbgjcaaaNAl
import Derived.Test.YtehkccogbgjcaaaRowAt
namespace Go.Proofs.Ytehkccogbgjcaaa
open Go.RowKit

theorem grown_some {w w2 : World} {g i : Nat} (h : w.grownBy w2 none) (u : Value) : w.grownBy (w2.setCell ⟨g, i, none⟩ u) (some g) :=
  ⟨h.os, h.tape, h.output, by simpa using h.size, fun k hk hne => (heap_setCell_other w2 _ k u (fun e => hne (by rw [e]))).trans (h.block k hk (by simp))⟩
theorem NBy_nil (c u v : Int) (w : World) : Calls Try.prog 25 #[.nilFunc, .int .i64 c, .int .i64 u, .int .i64 v] w fun e w' => e = .returned (.slice none 0 0) ∧ w = w' := by
  have hnil : ∀ w : World, (binOp .eql 50 .nilFunc .nilFunc).run Try.prog w = Result.ok (.bool true) w := fun w => by kernel_rfl
  go_enter Try.func25, Try.ntmps25
  go_wp2_with fail
  go_ret
  exact ⟨rfl, rfl⟩
theorem NBy_no (recv : Value) (c u v : Int) (w : World) (h : ¬ (1 ≤ c ∧ RightN u v)) : Calls Try.prog 25 #[.func (.func 26) #[recv] #[], .int .i64 c, .int .i64 u, .int .i64 v] w fun e w' => e = .returned (.slice none 0 0) ∧ w = w' := by
  have hnil : ∀ w : World, (binOp .eql 50 (.func (.func 26) #[recv] #[]) .nilFunc).run Try.prog w = Result.ok (.bool false) w := fun w => by kernel_rfl
  have H1 := hide (NRight_any u v w)
  by_cases k : c < 1
  · clear h H1
    go_enter Try.func25, Try.ntmps25
    go_wp2_with fail
    go_ret
    exact ⟨rfl, rfl⟩
  · rw [decide_eq_false fun q => h ⟨by omega, q⟩] at H1
    clear h
    go_enter Try.func25, Try.ntmps25
    go_wp2_with fail
    refine H1.out.mono ?_
    rintro e w1 ⟨rfl, rfl⟩
    go_wp2_with fail
    go_ret
    exact ⟨rfl, rfl⟩
theorem infoI64 : (Try.prog.info? 2).map (fun i => (i.zero, i.size, i.bytes)) = some (some (.int .i64 0), 1, 8) := by kernel_rfl
/-- what was asked for is noted, and the bytes are told -/
def GotK (w : World) (g : Nat) (A : Option Addr) (n cap : Nat) (x y : Int) (e : Ending) (w' : World) : Prop :=
  ∃ gx cx, e = .returned (.slice A n cap) ∧ Bx w' g [.slice A n cap, .slice (some ⟨gx, 0, none⟩) 2 cx] ∧ Bx w' gx [.int .i64 x, .int .i64 y] ∧ w.heap.size ≤ gx ∧ w.grownBy w' (some g)
set_option maxRecDepth 100000 in
set_option maxHeartbeats 2000000 in
theorem Get_any (g : Nat) (A : Option Addr) (n cap : Nat) (x y : Int) (w : World) (h : Bx w g [.slice A n cap, .slice none 0 0]) :
    Calls Try.prog 26 #[.pointer (some ⟨g, 0, none⟩), .int .i64 x, .int .i64 y] w (GotK w g A n cap x y) := by
  obtain ⟨hg, c0, c1, f0, f1⟩ := h.two
  have HB := hide h
  obtain ⟨i0, hi, hz0, hz1, hz2⟩ := info_parts infoI64
  have hown : (w.alloc (.cells #[.int .i64 x, .int .i64 y] 2)).ownsRow w.heap.size 2 1 (.slice none 0 0) 0 [] := ⟨rfl, .inl ⟨rfl, rfl⟩⟩
  have HO := hide hown
  clear h hown
  go_enter Try.func26, Try.ntmps26
  go_wp2_with (first
    | (at_builtin; refine wpList_append_own _ rfl _ _ 43 rfl w.heap.size 2 i0 (.int .i64 0) 1 8 Try.underlying43 hi hz0 hz1 hz2 rfl (by decide) _ _ _ rfl HO.out ⟨w.heap.size, 0, none⟩ 2 2 [.int .i64 x, .int .i64 y] rfl rfl ?c1 ?c2 ?c3 ?c4 ?c5 ?_)
    | fail)
  case c1 =>
    intro j u hj
    match j, hj with
    | 0, hj => simp at hj; subst hj; simp [Addr.add]
    | 1, hj => simp at hj; subst hj; simp [Addr.add]
  case c2 => intro u hu; simp at hu; rcases hu with rfl | rfl <;> rfl
  case c3 => unfold maxLen; omega
  case c4 => omega
  case c5 => simp
  intro v' w2 ho hgr _
  obtain ⟨gx, cx, rfl, hge, hbx⟩ : ∃ gx cx, v' = .slice (some ⟨gx, 0, none⟩) 2 cx ∧ w.heap.size ≤ gx ∧ Bx w2 gx [.int .i64 x, .int .i64 y] := by
    rcases ho.2 with ⟨_, k⟩ | ⟨gx, cp, cur, rfl, hge, _⟩
    · omega
    · exact ⟨gx, cp, rfl, hge, Bx.ofOwn ho⟩
  have Gn : w.grownBy w2 none := grownBy_trans (World.grownBy_alloc w _ none) hgr
  have HB2 := hide (HB.out.grown Gn (by simp))
  have HX := hide hbx
  have HG := hide Gn
  obtain ⟨_, c0', c1', f0', f1'⟩ := HB2.out.two
  clear c0 c1 f0 f1 ho hgr hbx Gn
  have hne : gx ≠ g := by omega
  have hlt2 := HB2.out.1
  go_wp2_with fail
  go_ret
  refine ⟨gx, cx, rfl, ?_, HX.out.other hne _, hge, grown_some HG.out _⟩
  exact HB2.out.set 1 (by simp) _
end Go.Proofs.Ytehkccogbgjcaaa
