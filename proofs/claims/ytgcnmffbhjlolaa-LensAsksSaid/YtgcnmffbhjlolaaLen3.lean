/-
Contracts of lenses: how a place is seen; what may be asked for. No statement is proved here.
-/
import Derived.Test.YtgcnmffbhjlolaaLen2
import Derived.Deep.DeepCutAuto
import Derived.StillTailTactics
namespace Go.Proofs.Ytgcnmffbhjlolaa
open Go.RowKit

/-- the seven numbers of a lens -/
structure Ln where
  cx : Int
  cy : Int
  f : Int
  k1 : Int
  k2 : Int
  p1 : Int
  p2 : Int
def Ln.cells (l : Ln) : List Value := [.int .i64 l.cx, .int .i64 l.cy, .int .i64 l.f, .int .i64 l.k1, .int .i64 l.k2, .int .i64 l.p1, .int .i64 l.p2]
/-- its middle and focus are in their ranges -/
def Ln.ok (l : Ln) : Prop := InZ l.cx 2147483648 ∧ InZ l.cy 2147483648 ∧ 1 ≤ l.f ∧ l.f ≤ 32768
theorem all2 (x y m : Int) : decide (∀ z ∈ [x, y], InZ z m) = decide (InZ x m ∧ InZ y m) := decide_eq_decide.2 (by simp)
/-- whether a place is seen -/
def Ln.sees (l : Ln) (x y d : Int) : Prop := InZ (asideZ x d l.cx l.f) 262144 ∧ InZ (asideZ y d l.cy l.f) 262144
instance (l : Ln) (x y d : Int) : Decidable (l.sees x y d) := by unfold Ln.sees; infer_instance

/-- the world behind both numbers of a sight -/
def SeenW (w : World) (x y : Int) (wx : World) : Prop := Bx wx w.heap.size [.int .i64 0, .int .i64 0] ∧ Bx wx (w.heap.size + 1) [.int .i64 x, .int .i64 y] ∧ Below w.heap.size w wx ∧ wx.heap.size = w.heap.size + 2

set_option maxHeartbeats 1000000 in
theorem Seen_any (g : Nat) (l : Ln) (px py d : Int) (w : World) (h : Bx w g l.cells) (hl : l.ok) (hd : 1 ≤ d ∧ d ≤ 16) (hx : InZ px 2097152) (hy : InZ py 2097152) :
    Calls Try.prog 20 #[.pointer (some ⟨g, 0, none⟩), .int .i64 px, .int .i64 py, .int .i64 d] w
      (Says w (.tuple #[.agg #[.int .i64 (asideZ px d l.cx l.f), .int .i64 (asideZ py d l.cy l.f)], .bool (decide (l.sees px py d))])) := by
  have H1 := hide (fun (w : World) (h : Bx w g l.cells) => Aside_any g px d l.cx l.f [.int .i64 l.cx, .int .i64 l.cy] [.int .i64 l.k1, .int .i64 l.k2, .int .i64 l.p1, .int .i64 l.p2] w h rfl hl.2.2 hd hx hl.1)
  have H2 := hide (fun (w : World) (h : Bx w g l.cells) => Aside_any g py d l.cy l.f [.int .i64 l.cx, .int .i64 l.cy] [.int .i64 l.k1, .int .i64 l.k2, .int .i64 l.p1, .int .i64 l.p2] w h rfl hl.2.2 hd hy hl.2.1)
  have hs : decide (l.sees px py d) = decide (∀ z ∈ [asideZ px d l.cx l.f, asideZ py d l.cy l.f], InZ z 262144) := by rw [all2]; rfl
  rw [hs]
  have i1 : isI64 (asideZ px d l.cx l.f) := by
    have b1 := fdiv_bound (p := 65536 * px) (d := d) (B := 137438953472) hd.1 (by unfold InZ at hx; omega)
    have b2 := fdiv_bound (p := Int.fdiv (65536 * px) d - l.cx) (d := l.f) (B := 139586437120) hl.2.2.1 (by have := hl.1; unfold InZ at this; omega)
    unfold isI64 asideZ
    omega
  have i2 : isI64 (asideZ py d l.cy l.f) := by
    have b1 := fdiv_bound (p := 65536 * py) (d := d) (B := 137438953472) hd.1 (by unfold InZ at hy; omega)
    have b2 := fdiv_bound (p := Int.fdiv (65536 * py) d - l.cy) (d := l.f) (B := 139586437120) hl.2.2.1 (by have := hl.2.1; unfold InZ at this; omega)
    unfold isI64 asideZ
    omega
  obtain ⟨x, hx'⟩ : ∃ x, asideZ px d l.cx l.f = x := ⟨_, rfl⟩
  obtain ⟨y, hy'⟩ : ∃ y, asideZ py d l.cy l.f = y := ⟨_, rfl⟩
  rw [hx'] at H1 i1 ⊢
  rw [hy'] at H2 i2 ⊢
  have HW := hide (fun (w : World) (A : Option Addr) (n c : Nat) (h : IY w A n c [x, y]) => within_any 262144 A n c [x, y] w h (by decide))
  have HI := hide (fun (w : World) (g : Nat) (h : Bx w g [.int .i64 x, .int .i64 y]) => IY.own (xs := [x, y]) h (by intro z hz; simp at hz; rcases hz with rfl | rfl; exact i1; exact i2) 2 (Nat.le_refl 2) (by decide))
  obtain ⟨v, hv⟩ : ∃ v, decide (∀ z ∈ [x, y], InZ z 262144) = v := ⟨_, rfl⟩
  rw [hv] at HW ⊢
  have HX := hide (h.alloc (.cells #[.int .i64 0, .int .i64 0] 56))
  clear hs hl hd hx hy hx' hy' hv i1 i2
  have HB := hide (below_alloc w (.cells #[.int .i64 0, .int .i64 0] 56))
  have HR := hide (Bx.new w [.int .i64 0, .int .i64 0] 56)
  obtain ⟨c0, c1, c2⟩ : w.cell? ⟨g, 0, none⟩ = some (.int .i64 l.cx) ∧ w.cell? ⟨g, 1, none⟩ = some (.int .i64 l.cy) ∧ g < w.heap.size := ⟨(h.2 0 _ rfl).1, (h.2 1 _ rfl).1, h.1⟩
  clear h
  go_enter Try.func20, Try.ntmps20
  go_wp2_with fail
  have KC := hide (fun w' (h : Bx w' g l.cells) => (⟨(h.2 0 _ rfl).1, (h.2 1 _ rfl).1⟩ : w'.cell? ⟨g, 0, none⟩ = some (.int .i64 l.cx) ∧ w'.cell? ⟨g, 1, none⟩ = some (.int .i64 l.cy)))
  go_cut [10] (fun s wx => s = .pointer (some ⟨w.heap.size + 1, 0, none⟩) ∧ SeenW w x y wx)
  case first =>
    go_region_held3 (fun w' => w'.cell? ⟨g, 0, none⟩ = some (.int .i64 l.cx) ∧ w'.cell? ⟨g, 1, none⟩ = some (.int .i64 l.cy))
      ((refine KC.out _ ?_; repeat (first | exact HX.out | refine Bx.drew ?_ | refine Bx.alloc ?_ _)))
      (first
        | (go_at_call_of 32 (Value.int .i64 px); refine Calls.mono (H1.out _ ?_) ?_; (· repeat (first | exact HX.out | refine Bx.drew ?_ | refine Bx.alloc ?_ _)); rintro e k1 ⟨rfl, rfl⟩)
        | (go_at_call_of 32 (Value.int .i64 py); refine Calls.mono (H2.out _ ?_) ?_; (· repeat (first | exact HX.out | refine Bx.drew ?_ | refine Bx.alloc ?_ _)); rintro e k2 ⟨rfl, rfl⟩))
    all_goals
      go_wp2_with fail
      go_meet
      exact ⟨rfl, (HR.out.alloc _).drew, (Bx.at [.int .i64 x, .int .i64 y] _ (by simp)).drew, (below_alloc2 w _ _).drew, by simp⟩
  case rest =>
    obtain ⟨rfl, KR, KS, KB, KZ⟩ := hcut
    have HKB := hide KB
    have HKR := hide KR
    have HZ := hide KZ.symm
    have HNE := hide (show ¬ w.heap.size + 1 = w.heap.size by omega)
    have HKS := hide KS
    obtain ⟨a0, a1, a2, a3, a4⟩ := KR.two
    obtain ⟨b0, b1, b2, b3, b4⟩ := KS.two
    clear KR KS KB c0 c1 HX HR HB KC H1 H2
    go_wp2_with fail
    have KC := hide (fun w' (h : Bx w' (w.heap.size + 1) [.int .i64 x, .int .i64 y]) => (⟨(h.2 0 _ rfl).1, (h.2 1 _ rfl).1⟩ : w'.cell? ⟨w.heap.size + 1, 0, none⟩ = some (.int .i64 x) ∧ w'.cell? ⟨w.heap.size + 1, 1, none⟩ = some (.int .i64 y)))
    go_region_held3 (fun w' => w'.cell? ⟨w.heap.size + 1, 0, none⟩ = some (.int .i64 x) ∧ w'.cell? ⟨w.heap.size + 1, 1, none⟩ = some (.int .i64 y))
      ((refine KC.out _ ?_; repeat (first | exact HKS.out | refine Bx.drew ?_ | refine Bx.alloc ?_ _ | refine Bx.other ?_ HNE.out _)))
      (first
        | (go_at_call 31; refine Calls.mono (HW.out _ _ _ _ (HI.out _ _ ?_)) ?_; (· repeat (first | exact Bx.at [.int .i64 x, .int .i64 y] _ HZ.out | refine Bx.drew ?_)); rintro e k2 ⟨rfl, rfl⟩))
    all_goals
      go_wp2_with fail
      refine bodyPost_ret (v := .tuple #[.agg #[.int .i64 x, .int .i64 y], .bool v]) (by simp [results, Try.results20, go_sem, a0, a1, a2]) rfl ⟨rfl, ?_⟩
      exact ((below_set2 HKB.out (Nat.le_refl _) _ _).alloc (by simp; omega) _).drew
end Go.Proofs.Ytgcnmffbhjlolaa
