/-
The law ImgPixels: its walk where it asks something. No statement is proved here.
-/
import Derived.Test.YtfhjdghhgojbkaaSet7
import Derived.Test.YtfhjdghhgojbkaaImg5
import Derived.Test.YtfhjdghhgojbkaaApp1
import Derived.Outline
import Derived.Deep.DeepCutAuto
namespace Go.Proofs.Ytfhjdghhgojbkaa
open Go.RowKit

theorem Bx.three {w : World} {g : Nat} {x0 x1 x2 : Value} (h : Bx w g [x0, x1, x2]) : g < w.heap.size ∧ w.cell? ⟨g, 0, none⟩ = some x0 ∧ w.cell? ⟨g, 1, none⟩ = some x1 ∧ w.cell? ⟨g, 2, none⟩ = some x2 :=
  ⟨h.1, (h.2 0 x0 rfl).1, (h.2 1 x1 rfl).1, (h.2 2 x2 rfl).1⟩
/-- an image of the call's own, with the bytes of another one -/
def PixG (w3 : World) (x y c : Int) (n : Nat) (xs : List Int) (s : Value) (wx : World) : Prop := ∃ g gp cp, s = .pointer (some ⟨g, 0, none⟩) ∧ Bx wx g [.int .i64 x, .int .i64 y, .int .i64 c, .slice (some ⟨gp, 0, none⟩) n cp] ∧ Bx wx gp (bytesV xs) ∧ g ≠ gp ∧ n ≤ cp ∧ cp ≤ maxLen ∧ w3.heap.size ≤ g ∧ w3.heap.size ≤ gp ∧ Bel w3 wx
/-- both boxes of the arguments -/
def PixK (w : World) (x y c : Int) (A : Option Addr) (n cap : Nat) (p0 p1 p2 : Int) (w' : World) : Prop :=
  Bx w' w.heap.size [.int .i64 x, .int .i64 y, .int .i64 c, .slice A n cap] ∧ Bx w' (w.heap.size + 1) [.int .i64 p0, .int .i64 p1, .int .i64 p2] ∧ Below w.heap.size w w'
theorem PixK.below {w : World} {x y c : Int} {A : Option Addr} {n cap : Nat} {p0 p1 p2 : Int} {w1 w2 : World} (h : PixK w x y c A n cap p0 p1 p2 w1) (hb : Below w1.heap.size w1 w2) : PixK w x y c A n cap p0 p1 p2 w2 :=
  ⟨h.1.below hb, h.2.1.below hb, h.2.2.trans (hb.mono h.2.2.size)⟩

/-- what lies there behind the row and the byte that was put -/
def PixW (w : World) (x y c : Int) (A : Option Addr) (n cap : Nat) (p0 p1 p2 : Int) (g gp cp : Nat) (Ar : Option Addr) (cr : Nat) (ys rl : List Int) (w' : World) : Prop :=
  PixK w x y c A n cap p0 p1 p2 w' ∧ Bx w' g [.int .i64 x, .int .i64 y, .int .i64 c, .slice (some ⟨gp, 0, none⟩) n cp] ∧ Bx w' gp (bytesV ys) ∧ w'.ownsRow 0 5 1 (.slice Ar rl.length cr) rl.length (bytesV rl)
theorem PixW.below {w : World} {x y c : Int} {A : Option Addr} {n cap : Nat} {p0 p1 p2 : Int} {g gp cp : Nat} {Ar : Option Addr} {cr : Nat} {ys rl : List Int} {w1 w2 : World} (h : PixW w x y c A n cap p0 p1 p2 g gp cp Ar cr ys rl w1) (hb : Below w1.heap.size w1 w2) : PixW w x y c A n cap p0 p1 p2 g gp cp Ar cr ys rl w2 :=
  ⟨h.1.below hb, h.2.1.below hb, h.2.2.1.below hb, own_below h.2.2.2 hb⟩

theorem PixW.drewN {w : World} {x y c : Int} {A : Option Addr} {n cap : Nat} {p0 p1 p2 : Int} {g gp cp : Nat} {Ar : Option Addr} {cr : Nat} {ys rl : List Int} {w1 : World} (h : PixW w x y c A n cap p0 p1 p2 g gp cp Ar cr ys rl w1) (m : Nat) : PixW w x y c A n cap p0 p1 p2 g gp cp Ar cr ys rl (w1.drewN m) :=
  h.below (bdrewN (Below.refl _ _) m)

set_option maxHeartbeats 4000000 in
set_option maxRecDepth 100000 in
theorem Pixels_in (x y c : Int) (A : Option Addr) (n cap : Nat) (xs : List Int) (p0 p1 p2 v : Int) (w : World) (h : BY w A n cap xs) (hn : n ≤ 20000)
    (B : Bool) (X at_ bg : Int) (ys rl : List Int)
    (HP : ∀ w, Calls Try.prog 39 #[.agg #[.int .i64 x, .int .i64 y, .int .i64 c, .slice A n cap], .int .i64 p0, .int .i64 p1, .int .i64 p2] w (Says w (.int .i64 at_)))
    (HA : ∀ w', Below w.heap.size w w' → Calls Try.prog 40 #[.agg #[.int .i64 x, .int .i64 y, .int .i64 c, .slice A n cap], .int .i64 p0, .int .i64 p1, .int .i64 p2] w' (Says w' (.tuple #[.int .u8 X, .bool B])))
    (HS : ∀ g gp cp w', Bx w' g [.int .i64 x, .int .i64 y, .int .i64 c, .slice (some ⟨gp, 0, none⟩) n cp] → Bx w' gp (bytesV xs) → g ≠ gp → Calls Try.prog 42 #[.pointer (some ⟨g, 0, none⟩), .int .i64 p0, .int .i64 p1, .int .i64 p2, .int .u8 v] w' (SetPost w' gp ys B))
    (HR : ∀ gp cp w', BY w' (some ⟨gp, 0, none⟩) n cp xs → Calls Try.prog 41 #[.agg #[.int .i64 x, .int .i64 y, .int .i64 c, .slice (some ⟨gp, 0, none⟩) n cp], .int .i64 p1] w' (OwnB w' rl))
    (HQ : ∀ w, Calls Try.prog 39 #[.agg #[.int .i64 x, .int .i64 y, .int .i64 c, .slice A n cap], .int .i64 0, .int .i64 p1, .int .i64 0] w (Says w (.int .i64 bg)))
    (hB : (B = true ∧ 0 ≤ at_ ∧ at_ < n ∧ X = xs.getD at_.toNat 0) ∨ (B = false ∧ at_ = -1 ∧ X = 0)) (hyl : ys.length = n) (hys : ∀ i : Nat, i < n → ys.getD i 0 = if (i : Int) = at_ then v else xs.getD i 0)
    (hrl : (bg < 0 ∧ rl = []) ∨ (0 ≤ bg ∧ (rl.length : Int) = x * c ∧ bg + rl.length ≤ n ∧ ∀ i : Nat, i < rl.length → rl.getD i 0 = xs.getD (bg.toNat + i) 0)) (hrb : ∀ z ∈ rl, 0 ≤ z ∧ z ≤ 255) :
    Calls Try.prog 9 #[.agg #[.int .i64 x, .int .i64 y, .int .i64 c, .slice A n cap], .agg #[.int .i64 p0, .int .i64 p1, .int .i64 p2], .int .u8 v] w (Says w (.bool true)) := by
  have F1 := hide (fun w => Few_any x y c A n cap 20000 w)
  rw [show decide ((n : Int) ≤ 20000) = true by simp; omega] at F1
  have K0 : PixK w x y c A n cap p0 p1 p2 ((w.alloc (.cells #[.int .i64 x, .int .i64 y, .int .i64 c, .slice A n cap] 40)).alloc (.cells #[.int .i64 p0, .int .i64 p1, .int .i64 p2] 50)) :=
    ⟨(Bx.at (w := w) (g := w.heap.size) [.int .i64 x, .int .i64 y, .int .i64 c, .slice A n cap] 40 rfl).alloc _, Bx.at [.int .i64 p0, .int .i64 p1, .int .i64 p2] 50 (by simp), below_alloc2 w _ _⟩
  obtain ⟨_, a0, a1, a2, a3, _, _, _, _⟩ := K0.1.four
  have HK0 := hide K0
  have HP' := hide HP
  have HA' := hide HA
  have HS' := hide HS
  have HR' := hide HR
  have HQ' := hide HQ
  have AL := hide alive7_any
  have HY := hide (fun w' (hb : Below w.heap.size w w') => h.below hb)
  have HXB := hide h.2.2.2.1
  have hxl := h.1
  clear K0 HP HA HS HR HQ h
  go_enter Try.func9, Try.ntmps9
  go_wp2_with fail
  refine (F1.out _).mono ?_
  rintro e w1 ⟨rfl, hb⟩
  have K1 := hide (HK0.out.below hb)
  clear hb a0 a1 a2 a3 HK0
  obtain ⟨_, a0, a1, a2, a3, _, _, _, _⟩ := K1.out.1.four
  obtain ⟨_, b0, b1, b2⟩ := K1.out.2.1.three
  go_wp2_with fail
  refine (HP'.out _).mono ?_
  rintro e w2 ⟨rfl, hb⟩
  have K2 := hide (K1.out.below hb)
  clear hb a0 a1 a2 a3 b0 b1 b2 K1
  obtain ⟨_, a0, a1, a2, a3, _, _, _, _⟩ := K2.out.1.four
  obtain ⟨_, b0, b1, b2⟩ := K2.out.2.1.three
  go_wp2_with fail
  refine (HA'.out _ K2.out.2.2).mono ?_
  rintro e w3 ⟨rfl, hb⟩
  have K3 := hide (K2.out.below hb)
  clear hb a0 a1 a2 a3 b0 b1 b2 K2
  obtain ⟨_, a0, a1, a2, a3, _, _, _, _⟩ := K3.out.1.four
  have hz3 := K3.out.1.1
  have KC := hide (fun w' (h : Bel w3 w') => (⟨(K3.out.1.below h).four.2.1, (K3.out.1.below h).four.2.2.1, (K3.out.1.below h).four.2.2.2.1, (K3.out.1.below h).four.2.2.2.2.1⟩ : w'.cell? ⟨w.heap.size, 0, none⟩ = some (.int .i64 x) ∧ w'.cell? ⟨w.heap.size, 1, none⟩ = some (.int .i64 y) ∧ w'.cell? ⟨w.heap.size, 2, none⟩ = some (.int .i64 c) ∧ w'.cell? ⟨w.heap.size, 3, none⟩ = some (.slice A n cap)))
  have O0 := hide (World.ownsRow_lit (base := w3.heap.size) (e := 5) (size := 1) w3 #[] 0 (Nat.le_refl _) (by unfold maxLen; omega) rfl)
  have L3 := hide (below_alloc w3 (.cells #[] 5))
  have LT := hide (fun wc (k : Bel (w3.alloc (.cells #[] 5)) wc) => append_lit wc w3.heap.size w3.heap.size (own_below O0.out k) (Nat.le_trans L3.out.size (Below.size k)) A n cap xs (by omega) (HY.out wc (K3.out.2.2.trans ((L3.out.trans (Below.mono k L3.out.size)).mono K3.out.2.2.size))) 38)
  have HA4 := hide (LT.out (w3.alloc (.cells #[] 5)).drew (Bel.drew (Bel.refl _)))
  have HA5 := hide (LT.out ((w3.alloc (.cells #[] 5)).alloc (.cells #[.int .i64 0, .int .i64 0, .int .i64 0, .slice none 0 0] 40)).drew (Bel.drew (bel_alloc (Bel.refl _) _)))
  have Z5 := hide (Bx.at (w := w3.alloc (.cells #[] 5)) (g := w3.heap.size + 1) [.int .i64 0, .int .i64 0, .int .i64 0, .slice none 0 0] 40 (by simp))
  have L4 := hide (show Bel w3 (w3.alloc (.cells #[] 5)).drew from Bel.drew L3.out)
  have L5 := hide (show Bel w3 ((w3.alloc (.cells #[] 5)).alloc (.cells #[.int .i64 0, .int .i64 0, .int .i64 0, .slice none 0 0] 40)).drew from Bel.drew (bel_alloc L3.out _))
  have O6 := hide (own_less (World.ownsRow_lit (base := (w3.alloc (.cells #[.int .i64 0, .int .i64 0, .int .i64 0, .slice none 0 0] 40)).heap.size) (e := 5) (size := 1) (w3.alloc (.cells #[.int .i64 0, .int .i64 0, .int .i64 0, .slice none 0 0] 40)) #[] 0 (Nat.le_refl _) (by unfold maxLen; omega) rfl) (show w3.heap.size ≤ _ by simp))
  have L6 := hide (show Bel w3 ((w3.alloc (.cells #[.int .i64 0, .int .i64 0, .int .i64 0, .slice none 0 0] 40)).alloc (.cells #[] 5)).drew from Bel.drew (bel_alloc (bel_alloc (Bel.refl _) _) _))
  have HA6 := hide (append_lit ((w3.alloc (.cells #[.int .i64 0, .int .i64 0, .int .i64 0, .slice none 0 0] 40)).alloc (.cells #[] 5)).drew w3.heap.size (w3.alloc (.cells #[.int .i64 0, .int .i64 0, .int .i64 0, .slice none 0 0] 40)).heap.size (show World.ownsRow _ _ _ _ _ _ _ from O6.out) (Below.size L6.out) A n cap xs (by omega) (HY.out _ (K3.out.2.2.trans (Below.mono L6.out K3.out.2.2.size))) 38)
  rw [World.size_alloc] at HA6
  have Z6 := hide ((Bx.at (w := w3) (g := w3.heap.size) [.int .i64 0, .int .i64 0, .int .i64 0, .slice none 0 0] 40 rfl).alloc (.cells #[] 5))
  have q5 : ((w3.alloc (.cells #[] 5)).alloc (.cells #[.int .i64 0, .int .i64 0, .int .i64 0, .slice none 0 0] 40)).heap[w3.heap.size + 1]? = some (.cells #[.int .i64 0, .int .i64 0, .int .i64 0, .slice none 0 0] 40) := by
    have := heap_alloc_new (w3.alloc (.cells #[] 5)) (.cells #[.int .i64 0, .int .i64 0, .int .i64 0, .slice none 0 0] 40)
    rwa [World.size_alloc] at this
  have T5 := hide (show (((w3.alloc (.cells #[] 5)).alloc (.cells #[.int .i64 0, .int .i64 0, .int .i64 0, .slice none 0 0] 40)).drew).heap[w3.heap.size + 1]? = some (.cells #[.int .i64 0, .int .i64 0, .int .i64 0, .slice none 0 0] 40) from q5)
  have q6 : ((w3.alloc (.cells #[.int .i64 0, .int .i64 0, .int .i64 0, .slice none 0 0] 40)).alloc (.cells #[] 5)).heap[w3.heap.size]? = some (.cells #[.int .i64 0, .int .i64 0, .int .i64 0, .slice none 0 0] 40) := (Below.heap_alloc (w3.alloc (.cells #[.int .i64 0, .int .i64 0, .int .i64 0, .slice none 0 0] 40)) _ _ (by simp)).trans (heap_alloc_new w3 _)
  have T6 := hide (show (((w3.alloc (.cells #[.int .i64 0, .int .i64 0, .int .i64 0, .slice none 0 0] 40)).alloc (.cells #[] 5)).drew).heap[w3.heap.size]? = some (.cells #[.int .i64 0, .int .i64 0, .int .i64 0, .slice none 0 0] 40) from q6)
  clear q5 q6
  have hTne : (40 : TypeId) ≠ 5 := by decide
  go_wp2_with fail
  go_cut [10] (fun s wx => PixG w3 x y c n xs s wx)
  case first =>
   go_region_held3 (fun w' => w'.cell? ⟨w.heap.size, 0, none⟩ = some (.int .i64 x) ∧ w'.cell? ⟨w.heap.size, 1, none⟩ = some (.int .i64 y) ∧ w'.cell? ⟨w.heap.size, 2, none⟩ = some (.int .i64 c) ∧ w'.cell? ⟨w.heap.size, 3, none⟩ = some (.slice A n cap))
     (first
       | (refine KC.out _ ?_; (repeat (first | assumption | exact Bel.refl _ | refine Bel.drew ?_ | refine bel_alloc ?_ _ | refine bel_set ?_ (by omega) _)); done)
       | fail)
     (first
       | (refine step_append_run rfl _ _ _ rfl (.slice (some ⟨w3.heap.size, 0, none⟩) 0 0) (.slice A n cap) rfl rfl HA4.out ?_
          rintro v5 w5 ⟨gp, cp, rfl, hgp, hc1, hc2, hB5, hg5, cur, hcur⟩
          have B5 := hide hB5
          have k5 : Bel w3 w5 := Below.grown L4.out hg5 (Below.size L4.out) (fun k hk => by cases hk; exact Nat.le_refl _)
          clear hB5 hg5 hcur)
       | (refine step_append_run rfl _ _ _ rfl (.slice (some ⟨w3.heap.size, 0, none⟩) 0 0) (.slice A n cap) rfl rfl HA5.out ?_
          rintro v5 w5 ⟨gp, cp, rfl, hgp, hc1, hc2, hB5, hg5, cur, hcur⟩
          have B5 := hide hB5
          have k5 : Bel w3 w5 := Below.grown L5.out hg5 (Below.size L5.out) (fun k hk => by cases hk; exact Nat.le_refl _)
          have ZZ := hide (Bx.grown (Z5.out.drew) hg5 (fun e => by injection e with e; omega))
          obtain ⟨_, z0, z1, z2, z3, y0, y1, y2, y3⟩ := ZZ.out.four
          have NE := hide (heap_ne T5.out hg5 (fun e => by injection e with e; omega) hcur hTne)
          clear hB5 hg5 hcur)
       | (refine step_append_run rfl _ _ _ rfl (.slice (some ⟨w3.heap.size + 1, 0, none⟩) 0 0) (.slice A n cap) rfl rfl HA6.out ?_
          rintro v5 w5 ⟨gp, cp, rfl, hgp, hc1, hc2, hB5, hg5, cur, hcur⟩
          have B5 := hide hB5
          have k5 : Bel w3 w5 := Below.grown L6.out hg5 (Below.size L6.out) (fun k hk => by cases hk; omega)
          have ZZ := hide (Bx.grown (Z6.out.drew) hg5 (fun e => by injection e with e; omega))
          obtain ⟨_, z0, z1, z2, z3, y0, y1, y2, y3⟩ := ZZ.out.four
          have NE := hide (heap_ne T6.out hg5 (fun e => by injection e with e; omega) hcur hTne)
          clear hB5 hg5 hcur)
       | fail)
   · go_wp2_with fail
     go_meet
     exact ⟨_, gp, cp, rfl, Bx.at [.int .i64 x, .int .i64 y, .int .i64 c, .slice (some ⟨gp, 0, none⟩) n cp] _ rfl, B5.out.alloc _, by have := B5.out.1; omega, hc1, hc2, Below.size k5, hgp, bel_alloc k5 _⟩
   · go_wp2_with fail
     go_meet
     exact ⟨_, gp, cp, rfl, ZZ.out.set4 _ _ _ _, B5.out.other4 NE.out _ _ _ _, Ne.symm NE.out, hc1, hc2, by omega, hgp, bel_set (bel_set (bel_set (bel_set k5 (by omega) _) (by omega) _) (by omega) _) (by omega) _⟩
   · go_wp2_with fail
     go_meet
     exact ⟨_, gp, cp, rfl, ZZ.out.set4 _ _ _ _, B5.out.other4 NE.out _ _ _ _, Ne.symm NE.out, hc1, hc2, by omega, hgp, bel_set (bel_set (bel_set (bel_set k5 (by omega) _) (by omega) _) (by omega) _) (by omega) _⟩
  case rest =>
    obtain ⟨g, gp, cp, rfl, hG, hP, hne, hc1, hc2, hg3, hp3, hbel⟩ := hcut
    have K4 := hide (K3.out.below hbel)
    have HG := hide hG
    have HPx := hide hP
    have hz4 : w.heap.size + 2 ≤ w3.heap.size := by have := K3.out.2.1.1; omega
    clear KC O0 L3 LT HA4 HA5 Z5 L4 L5 O6 L6 HA6 Z6 T5 T6 hTne a0 a1 a2 a3 K3 hG hP hbel
    obtain ⟨_, g0, g1, g2, g3, _, _, _, _⟩ := HG.out.four
    obtain ⟨_, b0, b1, b2⟩ := K4.out.2.1.three
    have HBP := hide (BY.ofBytes (c := cp) (by omega) hc2 HXB.out HPx.out)
    have hxl2 := hxl
    rw [hxl] at HBP
    have R1 := hide (HR'.out gp cp _ HBP.out)
    clear HBP
    go_wp2_with fail
    refine R1.out.mono ?_
    rintro e w4 ⟨v4, rfl, o4, hb⟩
    obtain ⟨Ar, cr, rfl, yr⟩ := BY.ofOwn o4 hrb
    have K5 := hide (K4.out.below hb)
    have HG5 := hide (HG.out.below hb)
    have HP5 := hide (HPx.out.below hb)
    have HO5 := hide o4
    have hpx := HPx.out.1
    clear hb R1 K4 HG HPx o4 yr g0 g1 g2 g3 b0 b1 b2
    have S1 := hide (HS'.out g gp cp w4 HG5.out HP5.out hne)
    obtain ⟨_, b0, b1, b2⟩ := K5.out.2.1.three
    go_wp2_with fail
    refine S1.out.mono ?_
    rintro e w5 hS
    obtain ⟨rfl, hY5, _⟩ := id hS
    have K6 := hide (show PixK w x y c A n cap p0 p1 p2 w5 from ⟨hS.box K5.out.1 (by omega), hS.box K5.out.2.1 (by omega), hS.below K5.out.2.2 K5.out.2.2.size (by omega)⟩)
    have HG6 := hide (hS.box HG5.out hne)
    have HO6 := hide (hS.own HO5.out hpx)
    have HY6 := hide hY5
    clear hS hY5 K5 HG5 HP5 HO5 S1 b0 b1 b2
    obtain ⟨_, g0, g1, g2, g3, _, _, _, _⟩ := HG6.out.four
    obtain ⟨_, a0, a1, a2, a3, _, _, _, _⟩ := K6.out.1.four
    have SN := hide (fun w => Set_nil 0 0 0 v w)
    have HW6 := hide (show PixW w x y c A n cap p0 p1 p2 g gp cp Ar cr ys rl w5 from ⟨K6.out, HG6.out, HY6.out, own_less HO6.out (Nat.zero_le _)⟩)
    go_upto_region 8 with fail
    go_cut [93] (fun s wx => s = .bool false ∧ PixW w x y c A n cap p0 p1 p2 g gp cp Ar cr ys rl wx)
    case first =>
      rcases hB with ⟨rfl, h1, h2, hX⟩ | ⟨rfl, rfl, rfl⟩
      · obtain ⟨bb, o, rfl, hlt, hcell⟩ := (HY.out w5 K6.out.2.2).2.2.2.2 (by omega)
        have e1 := hcell at_.toNat (by omega)
        rw [← hX] at e1
        clear hcell hX
        go_wp2_with fail
        refine (SN.out _).mono ?_
        rintro e w6 ⟨rfl, hb⟩
        go_wp2_with fail
        go_meet
        exact ⟨rfl, HW6.out.below hb⟩
      · go_wp2_with fail
        refine (SN.out _).mono ?_
        rintro e w6 ⟨rfl, hb⟩
        go_wp2_with fail
        go_meet
        exact ⟨rfl, HW6.out.below hb⟩
    case rest =>
      obtain ⟨rfl, hW⟩ := hcut
      have HW := hide hW
      clear hW HW6 K6 HG6 HO6 HY6 a0 a1 a2 a3 g0 g1 g2 g3 SN HS' HR' HA' HP' hB
      obtain ⟨_, g0, g1, g2, g3, _, _, _, _⟩ := HW.out.2.1.four
      obtain ⟨_, a0, a1, a2, a3, _, _, _, _⟩ := HW.out.1.1.four
      have HYS := hide hys
      have HRL := hide hrl
      have HRB := hide hrb
      clear hys hrl hrb
      go_wp2_with fail
      go_loopw [13] (fun i wr => ∃ k : Nat, k ≤ n ∧ i = .int .i64 k ∧ PixW w x y c A n cap p0 p1 p2 g gp cp Ar cr ys rl wr) (fun i _ => n - (intOf i).toNat)
      case atStart => exact ⟨0, Nat.zero_le _, rfl, HW.out⟩
      case round =>
        clear HW g0 g1 g2 g3 a0 a1 a2 a3
        obtain ⟨k, hk, rfl, hWr⟩ := hrel
        have HWr := hide hWr
        clear hWr
        obtain ⟨_, g0, g1, g2, g3, _, _, _, _⟩ := HWr.out.2.1.four
        obtain ⟨_, a0, a1, a2, a3, _, _, _, _⟩ := HWr.out.1.1.four
        by_cases hlt : k < n
        · obtain ⟨bb, o, rfl, _, hcell⟩ := (HY.out _ HWr.out.1.2.2).2.2.2.2 (by omega)
          have e1 := hcell k hlt
          have e2 := (HWr.out.2.2.1.2 k (.int .u8 (ys.getD k 0)) (by simp [bytesV, List.getD_eq_getElem?_getD, show k < ys.length by omega])).1
          have hyk := HYS.out k hlt
          have i0 : (0 : Int) ≤ (k : Int) := by omega
          have i1 : (k : Int) < (n : Int) := by omega
          clear hcell
          generalize ys.getD k 0 = u at e2 hyk
          by_cases he : (k : Int) = at_
          · rw [if_pos he] at hyk
            rw [hyk] at e2
            generalize xs.getD k 0 = q at e1
            have n1 : ((k : Int) != at_) = false := by rw [bne_eq_false_iff_eq]; exact he
            have n2 : ((k : Int) == at_) = true := by rw [beq_iff_eq]; exact he
            clear he hyk
            go_wp2_with fail
            go_region
            go_wp2_with fail
            go_roundw
            case rel => exact ⟨k + 1, by omega, by go_num, HWr.out.drewN _⟩
            case measure => simp [intOf]; omega
          · rw [if_neg he] at hyk
            rw [hyk] at e2
            generalize xs.getD k 0 = q at e1 e2
            have n1 : ((k : Int) != at_) = true := by rw [bne_iff_ne]; exact he
            have n2 : ((k : Int) == at_) = false := by rw [beq_eq_false_iff_ne]; exact he
            clear he hyk
            go_wp2_with fail
            go_region
            go_wp2_with fail
            go_roundw
            case rel => exact ⟨k + 1, by omega, by go_num, HWr.out.drewN _⟩
            case measure => simp [intOf]; omega
        · obtain rfl : k = n := by omega
          obtain ⟨_, b0, b1, b2⟩ := HWr.out.1.2.1.three
          go_wp2_with fail
          refine (HQ'.out _).mono ?_
          rintro e w6 ⟨rfl, hb⟩
          have HV := hide (HWr.out.below hb)
          clear hb g0 g1 g2 g3 a0 a1 a2 a3 b0 b1 b2 HWr
          obtain ⟨_, a0, a1, a2, a3, _, _, _, _⟩ := HV.out.1.1.four
          rcases HRL.out with ⟨q1, rfl⟩ | ⟨q1, q2, q3, q4⟩
          · go_wp2_with fail
            refine (AL.out _).mono ?_
            rintro e w7 ⟨rfl, hb⟩
            have L := hide (HV.out.below hb).1.2.2
            clear hb
            go_wp2_with fail
            go_ret
            exact ⟨rfl, L.out⟩
          · have hw : IntKind.i64.wrap (x * c) = (rl.length : Int) := by rw [← q2]; exact IntWalk.i64_in _ (by omega)
            have hbg : ¬ bg < 0 := by omega
            have Q4 := hide q4
            clear q2 q4
            go_wp2_with fail
            go_loopw [15] (fun i wr => ∃ j : Nat, j ≤ rl.length ∧ i = .int .i64 j ∧ PixW w x y c A k cap p0 p1 p2 g gp cp Ar cr ys rl wr) (fun i _ => rl.length - (intOf i).toNat)
            case atStart => exact ⟨0, Nat.zero_le _, rfl, HV.out⟩
            case round =>
              clear HV a0 a1 a2 a3
              obtain ⟨j, hj, rfl, hWj⟩ := hrel
              have HWj := hide hWj
              clear hWj
              obtain ⟨_, a0, a1, a2, a3, _, _, _, _⟩ := HWj.out.1.1.four
              by_cases hlj : j < rl.length
              · obtain ⟨bb, o, rfl, _, hcell⟩ := (HY.out _ HWj.out.1.2.2).2.2.2.2 (by omega)
                have e1 := hcell (bg.toNat + j) (by omega)
                obtain ⟨A2, c2, e2, yr⟩ := BY.ofOwn HWj.out.2.2.2 HRB.out
                injection e2 with e2 _ e3
                subst e2 e3
                obtain ⟨b2, o2, rfl, _, hcell2⟩ := yr.2.2.2.2 (by omega)
                have e4 := hcell2 j hlj
                have hjq := Q4.out j hlj
                rw [hjq] at e4
                generalize xs.getD (bg.toNat + j) 0 = q at e1 e4
                have m1 : IntKind.i64.wrap (bg + j) = bg + j := IntWalk.i64_in _ (by omega)
                have m2 : (bg + (j : Int)).toNat = bg.toNat + j := by omega
                have m3 : 0 ≤ bg + (j : Int) := by omega
                have m4 : bg + (j : Int) < (k : Int) := by omega
                have m5 : (0 : Int) ≤ (j : Int) := by omega
                have m6 : (j : Int) < (rl.length : Int) := by omega
                clear hcell hcell2 hjq yr
                go_wp2_with fail
                go_region
                go_wp2_with fail
                go_roundw
                case rel => exact ⟨j + 1, by omega, by go_num, HWj.out.drewN _⟩
                case measure => simp [intOf]; omega
              · obtain rfl : j = rl.length := by omega
                go_wp2_with fail
                refine (AL.out _).mono ?_
                rintro e w7 ⟨rfl, hb⟩
                have L := hide (HWj.out.below hb).1.2.2
                clear hb
                go_wp2_with fail
                go_ret
                exact ⟨rfl, L.out⟩

end Go.Proofs.Ytfhjdghhgojbkaa
