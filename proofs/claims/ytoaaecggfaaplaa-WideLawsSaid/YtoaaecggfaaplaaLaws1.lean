/-
The law WideLaws: its walk. No statement is proved here.
-/
import Derived.Test.YtoaaecggfaaplaaLaws0
import Derived.Deep.DeepCutAuto
import Derived.Outline
namespace Go.Proofs.Ytoaaecggfaaplaa
open Go.RowKit

/-- three boxes of numbers -/
def LawK (w : World) (ha la hb lb hc lc : Int) (ga gb gc : Nat) (w' : World) : Prop := Bx w' ga [.int .i64 ha, .int .u64 la] ∧ Bx w' gb [.int .i64 hb, .int .u64 lb] ∧ Bx w' gc [.int .i64 hc, .int .u64 lc] ∧ Below w.heap.size w w'
theorem LawK.below {w : World} {ha la hb lb hc lc : Int} {ga gb gc : Nat} {w1 w2 : World} (h : LawK w ha la hb lb hc lc ga gb gc w1) (k : Below w1.heap.size w1 w2) : LawK w ha la hb lb hc lc ga gb gc w2 :=
  ⟨h.1.below k, h.2.1.below k, h.2.2.1.below k, h.2.2.2.trans (k.mono h.2.2.2.size)⟩
theorem LawK.alloc {w : World} {ha la hb lb hc lc : Int} {ga gb gc : Nat} {w1 : World} (h : LawK w ha la hb lb hc lc ga gb gc w1) (o : Obj) : LawK w ha la hb lb hc lc ga gb gc (w1.alloc o) := h.below (below_alloc w1 o)
theorem bel_alloc' {w w' : World} (h : Bel w w') (o : Obj) : Bel w (w'.alloc o) := Below.alloc h h.size o
theorem bel_set' {w w' : World} (h : Bel w w') {g i : Nat} (hg : w.heap.size ≤ g) (u : Value) : Bel w (w'.setCell ⟨g, i, none⟩ u) := Below.setCell h hg u
theorem box_two {w : World} {g : Nat} {x0 x1 : Value} (h : g < w.heap.size) (c0 : w.cell? ⟨g, 0, none⟩ = some x0) (c1 : w.cell? ⟨g, 1, none⟩ = some x1) (f0 : w.frozen? ⟨g, 0, none⟩ = false) (f1 : w.frozen? ⟨g, 1, none⟩ = false) : Bx w g [x0, x1] :=
  ⟨h, fun i v hv => by
    rcases i with _ | _ | i
    · simp at hv; subst hv; exact ⟨c0, f0⟩
    · simp at hv; subst hv; exact ⟨c1, f1⟩
    · simp at hv⟩

theorem box3_1 (V : World) (o2 o3 : Obj) (l : List Value) (T : TypeId) : Bx (((V.alloc (.cells l.toArray T)).alloc o2).alloc o3).drew V.heap.size l := ((Bx.at l T rfl).alloc _).alloc _
theorem box3_2 (V : World) (o1 o3 : Obj) (l : List Value) (T : TypeId) : Bx (((V.alloc o1).alloc (.cells l.toArray T)).alloc o3).drew (V.heap.size + 1) l := (Bx.at l T (by simp)).alloc _
theorem box3_3 (V : World) (o1 o2 : Obj) (l : List Value) (T : TypeId) : Bx (((V.alloc o1).alloc o2).alloc (.cells l.toArray T)).drew (V.heap.size + 1 + 1) l := Bx.at l T (by simp)

set_option maxHeartbeats 8000000 in
set_option maxRecDepth 100000 in
theorem Laws_any (ha la hb lb hc lc x hs ls hl ll hr lr hp lp hq lq hu lu : Int) (o1 o4 o5 i k n : Bool) (w : World)
    (A1 : ∀ w, Calls Try.prog 9 #[.agg #[.int .i64 ha, .int .u64 la], .agg #[.int .i64 hb, .int .u64 lb]] w (Says w (.tuple #[.agg #[.int .i64 hs, .int .u64 ls], .bool o1])))
    (A2 : ∀ w, Calls Try.prog 9 #[.agg #[.int .i64 hb, .int .u64 lb], .agg #[.int .i64 ha, .int .u64 la]] w (Says w (.tuple #[.agg #[.int .i64 hs, .int .u64 ls], .bool o1])))
    (A3 : o1 = true → ∀ w, Calls Try.prog 10 #[.agg #[.int .i64 hs, .int .u64 ls], .agg #[.int .i64 hb, .int .u64 lb]] w (Says w (.tuple #[.agg #[.int .i64 ha, .int .u64 la], .bool true])))
    (A4 : ∀ w, Calls Try.prog 9 #[.agg #[.int .i64 hs, .int .u64 ls], .agg #[.int .i64 hc, .int .u64 lc]] w (Says w (.tuple #[.agg #[.int .i64 hl, .int .u64 ll], .bool o4])))
    (A5 : ∀ w, Calls Try.prog 9 #[.agg #[.int .i64 hb, .int .u64 lb], .agg #[.int .i64 hc, .int .u64 lc]] w (Says w (.tuple #[.agg #[.int .i64 hr, .int .u64 lr], .bool o5])))
    (A6 : o1 = true → o4 = true → o5 = true → ∀ w, Calls Try.prog 9 #[.agg #[.int .i64 ha, .int .u64 la], .agg #[.int .i64 hr, .int .u64 lr]] w (Says w (.tuple #[.agg #[.int .i64 hl, .int .u64 ll], .bool true])))
    (A7 : ∀ w, Calls Try.prog 19 #[.agg #[.int .i64 ha, .int .u64 la], .int .i64 x] w (Says w (.tuple #[.agg #[.int .i64 hp, .int .u64 lp], .bool i])))
    (A8 : ∀ w, Calls Try.prog 19 #[.agg #[.int .i64 hb, .int .u64 lb], .int .i64 x] w (Says w (.tuple #[.agg #[.int .i64 hq, .int .u64 lq], .bool k])))
    (A9 : ∀ w, Calls Try.prog 19 #[.agg #[.int .i64 hs, .int .u64 ls], .int .i64 x] w (Says w (.tuple #[.agg #[.int .i64 hu, .int .u64 lu], .bool n])))
    (A10 : o1 = true → i = true → k = true → n = true → ∀ w, Calls Try.prog 9 #[.agg #[.int .i64 hp, .int .u64 lp], .agg #[.int .i64 hq, .int .u64 lq]] w (Says w (.tuple #[.agg #[.int .i64 hu, .int .u64 lu], .bool true]))) :
    Calls Try.prog 7 #[.agg #[.int .i64 ha, .int .u64 la, .int .i64 hb, .int .u64 lb, .int .i64 hc, .int .u64 lc, .int .i64 x]] w (Says w (.bool true)) := by
  have AL := hide alive1_any
  have H1 := hide A1
  have H2 := hide A2
  have H3 := hide A3
  have H4 := hide A4
  have H5 := hide A5
  have H6 := hide A6
  have H7 := hide A7
  have H8 := hide A8
  have H9 := hide A9
  have H10 := hide A10
  have nq := fun (h l : Int) (w : World) => neq_wide h l w
  have hz := World.size_alloc w (.cells #[.int .i64 ha, .int .u64 la, .int .i64 hb, .int .u64 lb, .int .i64 hc, .int .u64 lc, .int .i64 x] 56)
  have L0 := below_alloc w (.cells #[.int .i64 ha, .int .u64 la, .int .i64 hb, .int .u64 lb, .int .i64 hc, .int .u64 lc, .int .i64 x] 56)
  have B0 := Bx.at (w := w) (g := w.heap.size) [.int .i64 ha, .int .u64 la, .int .i64 hb, .int .u64 lb, .int .i64 hc, .int .u64 lc, .int .i64 x] 56 rfl
  have e0 : [Value.int .i64 ha, .int .u64 la, .int .i64 hb, .int .u64 lb, .int .i64 hc, .int .u64 lc, .int .i64 x].toArray = #[Value.int .i64 ha, .int .u64 la, .int .i64 hb, .int .u64 lb, .int .i64 hc, .int .u64 lc, .int .i64 x] := rfl
  rw [e0] at B0
  clear A1 A2 A3 A4 A5 A6 A7 A8 A9 A10 e0
  go_enter Try.func7, Try.ntmps7
  go_wp2_with fail
  generalize w.alloc (.cells #[.int .i64 ha, .int .u64 la, .int .i64 hb, .int .u64 lb, .int .i64 hc, .int .u64 lc, .int .i64 x] 56) = V at *
  have cs := fun w' (h : Bel V w') => B0.below h
  have KC := hide (fun w' (h : Bel V w') => (⟨((cs w' h).2 0 _ rfl).1, ((cs w' h).2 1 _ rfl).1, ((cs w' h).2 2 _ rfl).1, ((cs w' h).2 3 _ rfl).1, ((cs w' h).2 4 _ rfl).1, ((cs w' h).2 5 _ rfl).1, ((cs w' h).2 6 _ rfl).1⟩ :
    w'.cell? ⟨w.heap.size, 0, none⟩ = some (.int .i64 ha) ∧ w'.cell? ⟨w.heap.size, 1, none⟩ = some (.int .u64 la) ∧ w'.cell? ⟨w.heap.size, 2, none⟩ = some (.int .i64 hb) ∧ w'.cell? ⟨w.heap.size, 3, none⟩ = some (.int .u64 lb) ∧ w'.cell? ⟨w.heap.size, 4, none⟩ = some (.int .i64 hc) ∧ w'.cell? ⟨w.heap.size, 5, none⟩ = some (.int .u64 lc) ∧ w'.cell? ⟨w.heap.size, 6, none⟩ = some (.int .i64 x)))
  have HL0 := hide L0
  have HZ := Lib.hid hz
  clear cs B0 L0 hz
  go_cut [3, 4, 5, 6] (fun s3 s4 s5 s6 wx => ∃ ga gb gc : Nat, s3 = .pointer (some ⟨ga, 0, none⟩) ∧ s4 = .pointer (some ⟨gb, 0, none⟩) ∧ s5 = .pointer (some ⟨gc, 0, none⟩) ∧ s6 = .int .i64 x ∧ LawK w ha la hb lb hc lc ga gb gc wx)
  case first =>
    go_region_held3 (fun w' => w'.cell? ⟨w.heap.size, 0, none⟩ = some (.int .i64 ha) ∧ w'.cell? ⟨w.heap.size, 1, none⟩ = some (.int .u64 la) ∧ w'.cell? ⟨w.heap.size, 2, none⟩ = some (.int .i64 hb) ∧ w'.cell? ⟨w.heap.size, 3, none⟩ = some (.int .u64 lb) ∧ w'.cell? ⟨w.heap.size, 4, none⟩ = some (.int .i64 hc) ∧ w'.cell? ⟨w.heap.size, 5, none⟩ = some (.int .u64 lc) ∧ w'.cell? ⟨w.heap.size, 6, none⟩ = some (.int .i64 x))
      (first
        | (refine KC.out _ ?_; (repeat (first | assumption | exact Bel.refl _ | refine Bel.drew ?_ | refine bel_alloc' ?_ _ | refine bel_set' ?_ (by simp; try omega) _)); done)
        | fail)
      (fail)
    all_goals
      have hv := HL0.out.size
      go_wp2_with fail
      go_meet
      refine ⟨_, _, _, rfl, rfl, rfl, rfl, ?_, ?_, ?_, ?_⟩
      · first | exact box3_1 _ _ _ [.int .i64 ha, .int .u64 la] _ | exact box3_2 _ _ _ [.int .i64 ha, .int .u64 la] _ | exact box3_3 _ _ _ [.int .i64 ha, .int .u64 la] _
      · first | exact box3_1 _ _ _ [.int .i64 hb, .int .u64 lb] _ | exact box3_2 _ _ _ [.int .i64 hb, .int .u64 lb] _ | exact box3_3 _ _ _ [.int .i64 hb, .int .u64 lb] _
      · first | exact box3_1 _ _ _ [.int .i64 hc, .int .u64 lc] _ | exact box3_2 _ _ _ [.int .i64 hc, .int .u64 lc] _ | exact box3_3 _ _ _ [.int .i64 hc, .int .u64 lc] _
      · exact Below.drew (Below.alloc (Below.alloc (Below.alloc HL0.out hv _) (by simp; omega) _) (by simp; omega) _)
  case rest =>
    obtain ⟨ga, gb, gc, rfl, rfl, rfl, rfl, hK0⟩ := hcut
    have K0 := hide hK0
    clear hK0 KC HL0 HZ
    obtain ⟨_, q00, q01, _, _⟩ := K0.out.1.two
    obtain ⟨_, q10, q11, _, _⟩ := K0.out.2.1.two
    go_wp2_with fail
    refine (H1.out _).mono ?_
    rintro e w1 ⟨rfl, hb⟩
    have K1 := hide ((K0.out.below hb).alloc (.cells #[.int .i64 hs, .int .u64 ls] 24))
    have Xs1 := hide (Bx.at (w := w1) (g := w1.heap.size) [.int .i64 hs, .int .u64 ls] 24 rfl)
    clear hb q00 q01 q10 q11 K0 
    obtain ⟨_, q00, q01, _, _⟩ := K1.out.2.1.two
    obtain ⟨_, q10, q11, _, _⟩ := K1.out.1.two
    go_wp2_with fail
    refine (H2.out _).mono ?_
    rintro e w2 ⟨rfl, hb⟩
    have K2 := hide ((K1.out.below hb).alloc (.cells #[.int .i64 hs, .int .u64 ls] 24))
    have Xs2 := hide ((Xs1.out.below hb).alloc (.cells #[.int .i64 hs, .int .u64 ls] 24))
    have Xt2 := hide (Bx.at (w := w2) (g := w2.heap.size) [.int .i64 hs, .int .u64 ls] 24 rfl)
    clear hb q00 q01 q10 q11 K1 Xs1
    obtain ⟨_, r00, r01, _, _⟩ := Xs2.out.two
    obtain ⟨_, r10, r11, _, _⟩ := Xt2.out.two
    cases o1
    · have AL := AL
      go_wp2_with fail
      refine (AL.out _).mono ?_
      rintro e wz ⟨rfl, hb⟩
      have L := hide (K2.out.below hb).2.2.2
      clear hb
      go_wp2_with fail
      go_ret
      exact ⟨rfl, L.out⟩
    · have G3 := hide (H3.out (by simp))
      obtain ⟨_, p0, p1, _, _⟩ := K2.out.2.1.two
      go_wp2_with fail
      refine (G3.out _).mono ?_
      rintro e w50 ⟨rfl, hb⟩
      have K50 := hide ((K2.out.below hb).alloc (.cells #[.int .i64 ha, .int .u64 la] 24))
      have Xs50 := hide ((Xs2.out.below hb).alloc (.cells #[.int .i64 ha, .int .u64 la] 24))
      have Xk50 := hide (Bx.at (w := w50) (g := w50.heap.size) [.int .i64 ha, .int .u64 la] 24 rfl)
      clear hb p0 p1 r00 r01 r10 r11 K2 Xs2 Xt2
      obtain ⟨_, r00, r01, _, _⟩ := Xk50.out.two
      obtain ⟨_, r10, r11, _, _⟩ := K50.out.1.two
      obtain ⟨_, r20, r21, _, _⟩ := Xs50.out.two
      obtain ⟨_, r30, r31, _, _⟩ := K50.out.2.2.1.two
      go_wp2_with fail
      refine (H4.out _).mono ?_
      rintro e w51 ⟨rfl, hb⟩
      have K51 := hide ((K50.out.below hb).alloc (.cells #[.int .i64 hl, .int .u64 ll] 24))
      have Xs51 := hide ((Xs50.out.below hb).alloc (.cells #[.int .i64 hl, .int .u64 ll] 24))
      have Xl51 := hide (Bx.at (w := w51) (g := w51.heap.size) [.int .i64 hl, .int .u64 ll] 24 rfl)
      clear hb r00 r01 r10 r11 r20 r21 r30 r31 K50 Xs50 Xk50
      obtain ⟨_, q00, q01, _, _⟩ := K51.out.2.1.two
      obtain ⟨_, q10, q11, _, _⟩ := K51.out.2.2.1.two
      go_wp2_with fail
      refine (H5.out _).mono ?_
      rintro e w3 ⟨rfl, hb⟩
      have K3 := hide ((K51.out.below hb).alloc (.cells #[.int .i64 hr, .int .u64 lr] 24))
      have Xs3 := hide ((Xs51.out.below hb).alloc (.cells #[.int .i64 hr, .int .u64 lr] 24))
      have Xl3 := hide ((Xl51.out.below hb).alloc (.cells #[.int .i64 hr, .int .u64 lr] 24))
      have Xr3 := hide (Bx.at (w := w3) (g := w3.heap.size) [.int .i64 hr, .int .u64 lr] 24 rfl)
      clear hb q00 q01 q10 q11 K51 Xs51 Xl51
      cases o4
      · have AL := AL
        obtain ⟨_, q00, q01, _, _⟩ := K3.out.1.two
        go_wp2_with fail
        refine (H7.out _).mono ?_
        rintro e w4 ⟨rfl, hb⟩
        have K4 := hide ((K3.out.below hb).alloc (.cells #[.int .i64 hp, .int .u64 lp] 24))
        have Xs4 := hide ((Xs3.out.below hb).alloc (.cells #[.int .i64 hp, .int .u64 lp] 24))
        have Xp4 := hide (Bx.at (w := w4) (g := w4.heap.size) [.int .i64 hp, .int .u64 lp] 24 rfl)
        clear hb q00 q01 K3 Xs3
        obtain ⟨_, q00, q01, _, _⟩ := K4.out.2.1.two
        go_wp2_with fail
        refine (H8.out _).mono ?_
        rintro e w5 ⟨rfl, hb⟩
        have K5 := hide ((K4.out.below hb).alloc (.cells #[.int .i64 hq, .int .u64 lq] 24))
        have Xs5 := hide ((Xs4.out.below hb).alloc (.cells #[.int .i64 hq, .int .u64 lq] 24))
        have Xp5 := hide ((Xp4.out.below hb).alloc (.cells #[.int .i64 hq, .int .u64 lq] 24))
        have Xq5 := hide (Bx.at (w := w5) (g := w5.heap.size) [.int .i64 hq, .int .u64 lq] 24 rfl)
        clear hb q00 q01 K4 Xs4 Xp4
        obtain ⟨_, q00, q01, _, _⟩ := Xs5.out.two
        go_wp2_with fail
        refine (H9.out _).mono ?_
        rintro e w6 ⟨rfl, hb⟩
        have K6 := hide ((K5.out.below hb).alloc (.cells #[.int .i64 hu, .int .u64 lu] 24))
        have Xs6 := hide ((Xs5.out.below hb).alloc (.cells #[.int .i64 hu, .int .u64 lu] 24))
        have Xp6 := hide ((Xp5.out.below hb).alloc (.cells #[.int .i64 hu, .int .u64 lu] 24))
        have Xq6 := hide ((Xq5.out.below hb).alloc (.cells #[.int .i64 hu, .int .u64 lu] 24))
        have Xu6 := hide (Bx.at (w := w6) (g := w6.heap.size) [.int .i64 hu, .int .u64 lu] 24 rfl)
        clear hb q00 q01 K5 Xs5 Xp5 Xq5
        cases i
        · have AL := AL
          go_wp2_with fail
          refine (AL.out _).mono ?_
          rintro e wz ⟨rfl, hb⟩
          have L := hide (K6.out.below hb).2.2.2
          clear hb
          go_wp2_with fail
          go_ret
          exact ⟨rfl, L.out⟩
        · cases k
          · have AL := AL
            go_wp2_with fail
            refine (AL.out _).mono ?_
            rintro e wz ⟨rfl, hb⟩
            have L := hide (K6.out.below hb).2.2.2
            clear hb
            go_wp2_with fail
            go_ret
            exact ⟨rfl, L.out⟩
          · cases n
            · have AL := AL
              go_wp2_with fail
              refine (AL.out _).mono ?_
              rintro e wz ⟨rfl, hb⟩
              have L := hide (K6.out.below hb).2.2.2
              clear hb
              go_wp2_with fail
              go_ret
              exact ⟨rfl, L.out⟩
            · have G10 := hide (H10.out (by simp) (by simp) (by simp) (by simp))
              obtain ⟨_, q00, q01, _, _⟩ := Xp6.out.two
              obtain ⟨_, q10, q11, _, _⟩ := Xq6.out.two
              go_wp2_with fail
              refine (G10.out _).mono ?_
              rintro e w7 ⟨rfl, hb⟩
              have K7 := hide ((K6.out.below hb).alloc (.cells #[.int .i64 hu, .int .u64 lu] 24))
              have Xs7 := hide ((Xs6.out.below hb).alloc (.cells #[.int .i64 hu, .int .u64 lu] 24))
              have Xp7 := hide ((Xp6.out.below hb).alloc (.cells #[.int .i64 hu, .int .u64 lu] 24))
              have Xq7 := hide ((Xq6.out.below hb).alloc (.cells #[.int .i64 hu, .int .u64 lu] 24))
              have Xu7 := hide ((Xu6.out.below hb).alloc (.cells #[.int .i64 hu, .int .u64 lu] 24))
              have Xv7 := hide (Bx.at (w := w7) (g := w7.heap.size) [.int .i64 hu, .int .u64 lu] 24 rfl)
              clear hb q00 q01 q10 q11 K6 Xs6 Xp6 Xq6 Xu6
              obtain ⟨_, r00, r01, _, _⟩ := Xv7.out.two
              obtain ⟨_, r10, r11, _, _⟩ := Xu7.out.two
              go_wp2_with fail
              refine (AL.out _).mono ?_
              rintro e wz ⟨rfl, hb⟩
              have L := hide (K7.out.below hb).2.2.2
              clear hb
              go_wp2_with fail
              go_ret
              exact ⟨rfl, L.out⟩
      · cases o5
        · have AL := AL
          obtain ⟨_, q00, q01, _, _⟩ := K3.out.1.two
          go_wp2_with fail
          refine (H7.out _).mono ?_
          rintro e w8 ⟨rfl, hb⟩
          have K8 := hide ((K3.out.below hb).alloc (.cells #[.int .i64 hp, .int .u64 lp] 24))
          have Xs8 := hide ((Xs3.out.below hb).alloc (.cells #[.int .i64 hp, .int .u64 lp] 24))
          have Xp8 := hide (Bx.at (w := w8) (g := w8.heap.size) [.int .i64 hp, .int .u64 lp] 24 rfl)
          clear hb q00 q01 K3 Xs3
          obtain ⟨_, q00, q01, _, _⟩ := K8.out.2.1.two
          go_wp2_with fail
          refine (H8.out _).mono ?_
          rintro e w9 ⟨rfl, hb⟩
          have K9 := hide ((K8.out.below hb).alloc (.cells #[.int .i64 hq, .int .u64 lq] 24))
          have Xs9 := hide ((Xs8.out.below hb).alloc (.cells #[.int .i64 hq, .int .u64 lq] 24))
          have Xp9 := hide ((Xp8.out.below hb).alloc (.cells #[.int .i64 hq, .int .u64 lq] 24))
          have Xq9 := hide (Bx.at (w := w9) (g := w9.heap.size) [.int .i64 hq, .int .u64 lq] 24 rfl)
          clear hb q00 q01 K8 Xs8 Xp8
          obtain ⟨_, q00, q01, _, _⟩ := Xs9.out.two
          go_wp2_with fail
          refine (H9.out _).mono ?_
          rintro e w10 ⟨rfl, hb⟩
          have K10 := hide ((K9.out.below hb).alloc (.cells #[.int .i64 hu, .int .u64 lu] 24))
          have Xs10 := hide ((Xs9.out.below hb).alloc (.cells #[.int .i64 hu, .int .u64 lu] 24))
          have Xp10 := hide ((Xp9.out.below hb).alloc (.cells #[.int .i64 hu, .int .u64 lu] 24))
          have Xq10 := hide ((Xq9.out.below hb).alloc (.cells #[.int .i64 hu, .int .u64 lu] 24))
          have Xu10 := hide (Bx.at (w := w10) (g := w10.heap.size) [.int .i64 hu, .int .u64 lu] 24 rfl)
          clear hb q00 q01 K9 Xs9 Xp9 Xq9
          cases i
          · have AL := AL
            go_wp2_with fail
            refine (AL.out _).mono ?_
            rintro e wz ⟨rfl, hb⟩
            have L := hide (K10.out.below hb).2.2.2
            clear hb
            go_wp2_with fail
            go_ret
            exact ⟨rfl, L.out⟩
          · cases k
            · have AL := AL
              go_wp2_with fail
              refine (AL.out _).mono ?_
              rintro e wz ⟨rfl, hb⟩
              have L := hide (K10.out.below hb).2.2.2
              clear hb
              go_wp2_with fail
              go_ret
              exact ⟨rfl, L.out⟩
            · cases n
              · have AL := AL
                go_wp2_with fail
                refine (AL.out _).mono ?_
                rintro e wz ⟨rfl, hb⟩
                have L := hide (K10.out.below hb).2.2.2
                clear hb
                go_wp2_with fail
                go_ret
                exact ⟨rfl, L.out⟩
              · have G10 := hide (H10.out (by simp) (by simp) (by simp) (by simp))
                obtain ⟨_, q00, q01, _, _⟩ := Xp10.out.two
                obtain ⟨_, q10, q11, _, _⟩ := Xq10.out.two
                go_wp2_with fail
                refine (G10.out _).mono ?_
                rintro e w11 ⟨rfl, hb⟩
                have K11 := hide ((K10.out.below hb).alloc (.cells #[.int .i64 hu, .int .u64 lu] 24))
                have Xs11 := hide ((Xs10.out.below hb).alloc (.cells #[.int .i64 hu, .int .u64 lu] 24))
                have Xp11 := hide ((Xp10.out.below hb).alloc (.cells #[.int .i64 hu, .int .u64 lu] 24))
                have Xq11 := hide ((Xq10.out.below hb).alloc (.cells #[.int .i64 hu, .int .u64 lu] 24))
                have Xu11 := hide ((Xu10.out.below hb).alloc (.cells #[.int .i64 hu, .int .u64 lu] 24))
                have Xv11 := hide (Bx.at (w := w11) (g := w11.heap.size) [.int .i64 hu, .int .u64 lu] 24 rfl)
                clear hb q00 q01 q10 q11 K10 Xs10 Xp10 Xq10 Xu10
                obtain ⟨_, r00, r01, _, _⟩ := Xv11.out.two
                obtain ⟨_, r10, r11, _, _⟩ := Xu11.out.two
                go_wp2_with fail
                refine (AL.out _).mono ?_
                rintro e wz ⟨rfl, hb⟩
                have L := hide (K11.out.below hb).2.2.2
                clear hb
                go_wp2_with fail
                go_ret
                exact ⟨rfl, L.out⟩
        · have G6 := hide (H6.out (by simp) (by simp) (by simp))
          obtain ⟨_, q00, q01, _, _⟩ := K3.out.1.two
          obtain ⟨_, q10, q11, _, _⟩ := Xr3.out.two
          go_wp2_with fail
          refine (G6.out _).mono ?_
          rintro e w12 ⟨rfl, hb⟩
          have K12 := hide ((K3.out.below hb).alloc (.cells #[.int .i64 hl, .int .u64 ll] 24))
          have Xs12 := hide ((Xs3.out.below hb).alloc (.cells #[.int .i64 hl, .int .u64 ll] 24))
          have Xl12 := hide ((Xl3.out.below hb).alloc (.cells #[.int .i64 hl, .int .u64 ll] 24))
          have Xr12 := hide ((Xr3.out.below hb).alloc (.cells #[.int .i64 hl, .int .u64 ll] 24))
          have Xm12 := hide (Bx.at (w := w12) (g := w12.heap.size) [.int .i64 hl, .int .u64 ll] 24 rfl)
          clear hb q00 q01 q10 q11 K3 Xs3 Xl3 Xr3
          obtain ⟨_, r00, r01, _, _⟩ := Xm12.out.two
          obtain ⟨_, r10, r11, _, _⟩ := Xl12.out.two
          obtain ⟨_, q00, q01, _, _⟩ := K12.out.1.two
          go_wp2_with fail
          refine (H7.out _).mono ?_
          rintro e w13 ⟨rfl, hb⟩
          have K13 := hide ((K12.out.below hb).alloc (.cells #[.int .i64 hp, .int .u64 lp] 24))
          have Xs13 := hide ((Xs12.out.below hb).alloc (.cells #[.int .i64 hp, .int .u64 lp] 24))
          have Xp13 := hide (Bx.at (w := w13) (g := w13.heap.size) [.int .i64 hp, .int .u64 lp] 24 rfl)
          clear hb q00 q01 K12 Xs12
          obtain ⟨_, q00, q01, _, _⟩ := K13.out.2.1.two
          go_wp2_with fail
          refine (H8.out _).mono ?_
          rintro e w14 ⟨rfl, hb⟩
          have K14 := hide ((K13.out.below hb).alloc (.cells #[.int .i64 hq, .int .u64 lq] 24))
          have Xs14 := hide ((Xs13.out.below hb).alloc (.cells #[.int .i64 hq, .int .u64 lq] 24))
          have Xp14 := hide ((Xp13.out.below hb).alloc (.cells #[.int .i64 hq, .int .u64 lq] 24))
          have Xq14 := hide (Bx.at (w := w14) (g := w14.heap.size) [.int .i64 hq, .int .u64 lq] 24 rfl)
          clear hb q00 q01 K13 Xs13 Xp13
          obtain ⟨_, q00, q01, _, _⟩ := Xs14.out.two
          go_wp2_with fail
          refine (H9.out _).mono ?_
          rintro e w15 ⟨rfl, hb⟩
          have K15 := hide ((K14.out.below hb).alloc (.cells #[.int .i64 hu, .int .u64 lu] 24))
          have Xs15 := hide ((Xs14.out.below hb).alloc (.cells #[.int .i64 hu, .int .u64 lu] 24))
          have Xp15 := hide ((Xp14.out.below hb).alloc (.cells #[.int .i64 hu, .int .u64 lu] 24))
          have Xq15 := hide ((Xq14.out.below hb).alloc (.cells #[.int .i64 hu, .int .u64 lu] 24))
          have Xu15 := hide (Bx.at (w := w15) (g := w15.heap.size) [.int .i64 hu, .int .u64 lu] 24 rfl)
          clear hb q00 q01 K14 Xs14 Xp14 Xq14
          cases i
          · have AL := AL
            go_wp2_with fail
            refine (AL.out _).mono ?_
            rintro e wz ⟨rfl, hb⟩
            have L := hide (K15.out.below hb).2.2.2
            clear hb
            go_wp2_with fail
            go_ret
            exact ⟨rfl, L.out⟩
          · cases k
            · have AL := AL
              go_wp2_with fail
              refine (AL.out _).mono ?_
              rintro e wz ⟨rfl, hb⟩
              have L := hide (K15.out.below hb).2.2.2
              clear hb
              go_wp2_with fail
              go_ret
              exact ⟨rfl, L.out⟩
            · cases n
              · have AL := AL
                go_wp2_with fail
                refine (AL.out _).mono ?_
                rintro e wz ⟨rfl, hb⟩
                have L := hide (K15.out.below hb).2.2.2
                clear hb
                go_wp2_with fail
                go_ret
                exact ⟨rfl, L.out⟩
              · have G10 := hide (H10.out (by simp) (by simp) (by simp) (by simp))
                obtain ⟨_, q00, q01, _, _⟩ := Xp15.out.two
                obtain ⟨_, q10, q11, _, _⟩ := Xq15.out.two
                go_wp2_with fail
                refine (G10.out _).mono ?_
                rintro e w16 ⟨rfl, hb⟩
                have K16 := hide ((K15.out.below hb).alloc (.cells #[.int .i64 hu, .int .u64 lu] 24))
                have Xs16 := hide ((Xs15.out.below hb).alloc (.cells #[.int .i64 hu, .int .u64 lu] 24))
                have Xp16 := hide ((Xp15.out.below hb).alloc (.cells #[.int .i64 hu, .int .u64 lu] 24))
                have Xq16 := hide ((Xq15.out.below hb).alloc (.cells #[.int .i64 hu, .int .u64 lu] 24))
                have Xu16 := hide ((Xu15.out.below hb).alloc (.cells #[.int .i64 hu, .int .u64 lu] 24))
                have Xv16 := hide (Bx.at (w := w16) (g := w16.heap.size) [.int .i64 hu, .int .u64 lu] 24 rfl)
                clear hb q00 q01 q10 q11 K15 Xs15 Xp15 Xq15 Xu15
                obtain ⟨_, r00, r01, _, _⟩ := Xv16.out.two
                obtain ⟨_, r10, r11, _, _⟩ := Xu16.out.two
                go_wp2_with fail
                refine (AL.out _).mono ?_
                rintro e wz ⟨rfl, hb⟩
                have L := hide (K16.out.below hb).2.2.2
                clear hb
                go_wp2_with fail
                go_ret
                exact ⟨rfl, L.out⟩

end Go.Proofs.Ytoaaecggfaaplaa
