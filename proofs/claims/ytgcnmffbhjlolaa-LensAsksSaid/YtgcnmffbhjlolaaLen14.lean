/-
The law LensAsks: its walk. No statement is proved here.
-/
import Derived.Test.YtgcnmffbhjlolaaLen12
import Derived.Test.YtgcnmffbhjlolaaPlaces
namespace Go.Proofs.Ytgcnmffbhjlolaa
open Go.RowKit

theorem lensE_C {cs : List Int} {w h : Int} (k : lensE cs w h = 0) : lensC cs w h = 0 := by
  by_cases q : lensC cs w h = 0
  · exact q
  · rw [lensE_bad q] at k; exact k
/-- the law's world: its box, the numbers, the places -/
def AskW (w : World) (sw sh : Int) (A : Option Addr) (n c : Nat) (xs : List Int) (B : Option Addr) (m : Nat) (f : Nat → Pl3) (wx : World) : Prop :=
  Bx wx w.heap.size [.int .i64 sw, .int .i64 sh] ∧ IY wx A n c xs ∧ PY wx B m f ∧ Below w.heap.size w wx
theorem AskW.below {w : World} {sw sh : Int} {A : Option Addr} {n c : Nat} {xs : List Int} {B : Option Addr} {m : Nat} {f : Nat → Pl3} {wx wy : World} (h : AskW w sw sh A n c xs B m f wx) (hb : Below wx.heap.size wx wy) : AskW w sw sh A n c xs B m f wy :=
  ⟨h.1.below hb, h.2.1.below hb, h.2.2.1.below hb, h.2.2.2.trans (hb.mono h.2.2.2.size)⟩
theorem AskW.start {w : World} {A : Option Addr} {n c : Nat} {xs : List Int} {B : Option Addr} {m : Nat} {f : Nat → Pl3} (h : IY w A n c xs) (k : PY w B m f) (sw sh : Int) :
    AskW w sw sh A n c xs B m f (w.alloc (.cells #[.int .i64 sw, .int .i64 sh] 23)) := ⟨Bx.at [.int .i64 sw, .int .i64 sh] _ rfl, h.below (below_alloc w _), k.below (below_alloc w _), below_alloc w _⟩

set_option maxRecDepth 100000 in
set_option maxHeartbeats 4000000 in
theorem LensAsks_bad (A : Option Addr) (n c : Nat) (xs : List Int) (sw sh : Int) (B : Option Addr) (m cap : Nat) (f : Nat → Pl3) (w : World) (h : IY w A n c xs) (hp : PY w B m f) (hn : n ≤ 60) (hm : m ≤ 60) (hE : lensE xs sw sh ≠ 0) :
    Calls Try.prog 3 #[.slice A n c, .agg #[.int .i64 sw, .int .i64 sh], .slice B m cap] w (Says w (.bool true)) := by
  have HN := hide (fun (w : World) (h : IY w A n c xs) => New_any A n c xs sw sh w h)
  have HC := hide (fun (w : World) (h : IY w A n c xs) => Check_any A n c xs sw sh w h)
  have HD := hide (fun (w : World) (h : IY w A n c xs) => RCheck_any A n c xs sw sh w h)
  have HA := hide (fun w => alive20_any w)
  have HW := hide (AskW.start h hp sw sh)
  have hz : (n : Int) ≤ 60 := by omega
  have hz2 : (m : Int) ≤ 60 := by omega
  have HT := hide (fun (p : Pl3) w => At_nil p.x p.y p.d w)
  have HBN := hide (fun w => Bound_nil w)
  have HE0 := hide (show ∀ w e w', NewQ xs sw sh w e w' → Below w.heap.size w w' ∧ e = .returned (.tuple #[.pointer none, .int .i64 (lensE xs sw sh)]) from fun w e w' ⟨q1, q2⟩ => ⟨q1, by
    rcases q2 with ⟨q3, _⟩ | ⟨_, q4⟩
    · exact absurd q3 hE
    · exact q4⟩)
  obtain ⟨v, hv⟩ : ∃ v, lensE xs sw sh = v := ⟨_, rfl⟩
  rw [hv] at HE0 hE
  have HN' := hide (fun (w : World) (h : IY w A n c xs) => (HN.out w h).mono (fun e w' q => HE0.out w e w' q))
  rw [hv] at HC HD
  have hE' : (v != 0) = true := by simpa using hE
  have hE2 : (v == 0) = false := by simpa using hE
  clear hv HN HE0 h hp hn hm
  go_enter Try.func3, Try.ntmps3
  go_wp2_with fail
  refine (HN'.out _ HW.out.2.1).mono ?_
  rintro e w1 ⟨hb, rfl⟩
  have HW1 := hide (HW.out.below hb)
  clear HW hb
  obtain ⟨_, a0, a1, _, _⟩ := HW1.out.1.two
  go_wp2_with fail
  refine (HD.out _ HW1.out.2.1).mono ?_
  rintro e w2 ⟨rfl, hb⟩
  have HW2 := hide (HW1.out.below hb)
  clear HW1 hb a0 a1
  obtain ⟨_, a0, a1, _, _⟩ := HW2.out.1.two
  go_wp2_with fail
  refine (HC.out _ HW2.out.2.1).mono ?_
  rintro e w3 ⟨rfl, hb⟩
  have HW3 := hide (HW2.out.below hb)
  clear HW2 hb a0 a1
  go_wp2_with fail
  refine (HBN.out _).mono ?_
  rintro e w4 ⟨rfl, rfl⟩
  go_wp2_with fail
  go_loopw [75] (fun i wr => ∃ k : Nat, k ≤ m ∧ i = .int .i64 k ∧ AskW w sw sh A n c xs B m f wr) (fun i _ => m - (intOf i).toNat)
  case atStart => exact ⟨0, Nat.zero_le _, rfl, HW3.out⟩
  case round =>
    clear HW3
    obtain ⟨k, hk, rfl, hK⟩ := hrel
    have HK := hide hK
    clear hK
    by_cases hlt : k < m
    · obtain ⟨b, o, rfl, _, hcell⟩ := HK.out.2.2.1 (by omega)
      obtain ⟨c0, c1, c2, x1, x2, x3⟩ := hcell k hlt
      obtain ⟨p, hp⟩ : ∃ p, f k = p := ⟨_, rfl⟩
      rw [hp] at c0 c1 c2 x1 x2 x3
      clear hp hcell
      have i0 : (0 : Int) ≤ (k : Int) := by omega
      have i1 : (k : Int) < (m : Int) := by omega
      have HK2 := hide (HK.out.below (below_alloc wr (.cells #[.int .i64 p.x, .int .i64 p.y, .int .i64 p.d] 32)))
      obtain ⟨d0, d1, d2⟩ := (Bx.new wr [.int .i64 p.x, .int .i64 p.y, .int .i64 p.d] 32).three
      go_wp2_with fail
      refine (HT.out p _).mono ?_
      rintro e w5 ⟨rfl, hb⟩
      have HK3 := hide (HK2.out.below hb)
      clear hb HK2 HK c0 c1 c2 d0 d1 d2 x1 x2 x3
      go_wp2_with fail
      go_roundw
      case rel => exact ⟨k + 1, by omega, by go_num, HK3.out⟩
      case measure => simp [intOf]; omega
    · obtain rfl : k = m := by omega
      go_wp2_with fail
      refine (HA.out _).mono ?_
      rintro e w9 ⟨rfl, hb⟩
      have HB9 := hide (HK.out.below hb).2.2.2
      clear hb
      go_wp2_with fail
      go_ret
      exact ⟨rfl, HB9.out⟩

set_option maxRecDepth 100000 in
set_option maxHeartbeats 8000000 in
theorem LensAsks_ok (b o c : Nat) (l : Ln) (sw sh : Int) (B : Option Addr) (m cap : Nat) (f : Nat → Pl3) (w : World) (h : IY w (some ⟨b, o, none⟩) 7 c l.list) (hp : PY w B m f) (hm : m ≤ 60) (hE : lensE l.list sw sh = 0) :
    Calls Try.prog 3 #[.slice (some ⟨b, o, none⟩) 7 c, .agg #[.int .i64 sw, .int .i64 sh], .slice B m cap] w (Says w (.bool true)) := by
  have HN := hide (fun (w : World) (h : IY w (some ⟨b, o, none⟩) 7 c l.list) => New_any (some ⟨b, o, none⟩) 7 c l.list sw sh w h)
  have HC := hide (fun (w : World) (h : IY w (some ⟨b, o, none⟩) 7 c l.list) => Check_any (some ⟨b, o, none⟩) 7 c l.list sw sh w h)
  have HD := hide (fun (w : World) (h : IY w (some ⟨b, o, none⟩) 7 c l.list) => RCheck_any (some ⟨b, o, none⟩) 7 c l.list sw sh w h)
  have HA := hide (fun w => alive20_any w)
  have HW := hide (AskW.start h hp sw sh)
  have hz2 : (m : Int) ≤ 60 := by omega
  have hlo : l.ok := by
    obtain ⟨_, z1, z2, z3, _⟩ := lensC_zero (lensE_C hE)
    exact ⟨z1, z2, z3⟩
  have HT := hide (fun (g : Nat) (p : Pl3) (w : World) (h : Bx w g l.cells) (hx : isI64 p.x) (hy : isI64 p.y) => At_any g l p.x p.y p.d w h hlo hx hy)
  have HRT := hide (fun (p : Pl3) (w : World) (h : IY w (some ⟨b, o, none⟩) 7 c l.list) (hr : RightZ p.x p.y p.d) => RAt_any l b o c p.x p.y p.d w h hlo hr)
  have HR := hide (fun (p : Pl3) w => RRight_any p.x p.y p.d w)
  have HBN := hide (fun (g : Nat) (w : World) (h : Bx w g l.cells) => Bound_any g l w h hlo)
  have e1 : wrap64 (12000 * l.f) = 12000 * l.f := IntWalk.wrap64_in _ (by have := hlo.2.2; omega)
  have HE0 := hide (show ∀ w e w', NewQ l.list sw sh w e w' → Below w.heap.size w w' ∧ ∃ g, e = .returned (.tuple #[.pointer (some ⟨g, 0, none⟩), .int .i64 0]) ∧ Bx w' g l.cells from fun w e w' ⟨q1, q2⟩ => ⟨q1, by
    rcases q2 with ⟨_, l', g, q4, _, q5, q6⟩ | ⟨q3, _⟩
    · obtain rfl : l = l' := by
        obtain ⟨a1, a2, a3, a4, a5, a6, a7⟩ := l
        obtain ⟨b1, b2, b3, b4, b5, b6, b7⟩ := l'
        simp [Ln.list] at q4
        obtain ⟨rfl, rfl, rfl, rfl, rfl, rfl, rfl⟩ := q4
        rfl
      exact ⟨g, q5, q6⟩
    · exact absurd hE q3⟩)
  have HN' := hide (fun (w : World) (h : IY w (some ⟨b, o, none⟩) 7 c l.list) => (HN.out w h).mono (fun e w' q => HE0.out w e w' q))
  rw [hE] at HC HD
  clear HN HE0 h hp hm hE hlo
  go_enter Try.func3, Try.ntmps3
  go_wp2_with fail
  refine (HN'.out _ HW.out.2.1).mono ?_
  rintro e w1 ⟨hb, g, rfl, hx⟩
  have HW1 := hide (HW.out.below hb)
  have HX1 := hide hx
  clear HW hb hx
  obtain ⟨_, a0, a1, _, _⟩ := HW1.out.1.two
  go_wp2_with fail
  refine (HD.out _ HW1.out.2.1).mono ?_
  rintro e w2 ⟨rfl, hb⟩
  have HW2 := hide (HW1.out.below hb)
  have HX2 := hide (HX1.out.below hb)
  clear HW1 hb a0 a1
  obtain ⟨_, a0, a1, _, _⟩ := HW2.out.1.two
  go_wp2_with fail
  refine (HC.out _ HW2.out.2.1).mono ?_
  rintro e w3 ⟨rfl, hb⟩
  have HW3 := hide (HW2.out.below hb)
  have HX3 := hide (HX2.out.below hb)
  clear HW2 hb a0 a1
  obtain ⟨b', o', e', _, hcell⟩ := HW3.out.2.1.2.2.2.2 (by omega)
  cases e'
  have c2 : w3.cell? ⟨b, o + 2, none⟩ = some (.int .i64 l.f) := hcell 2 (by omega)
  clear hcell
  go_wp2_with fail
  refine (HBN.out _ _ HX3.out).mono ?_
  rintro e w4 ⟨rfl, rfl⟩
  clear c2
  go_wp2_with fail
  go_loopw [75] (fun i wr => ∃ k : Nat, k ≤ m ∧ i = .int .i64 k ∧ AskW w sw sh (some ⟨b, o, none⟩) 7 c l.list B m f wr ∧ Bx wr g l.cells) (fun i _ => m - (intOf i).toNat)
  case atStart => exact ⟨0, Nat.zero_le _, rfl, HW3.out, HX3.out⟩
  case round =>
    clear HW3 HX3
    obtain ⟨k, hk, rfl, hK, hX⟩ := hrel
    have HK := hide hK
    have HX := hide hX
    clear hK hX
    by_cases hlt : k < m
    · obtain ⟨bb, oo, rfl, _, hcell⟩ := HK.out.2.2.1 (by omega)
      obtain ⟨c0, c1, c2, x1, x2, x3⟩ := hcell k hlt
      obtain ⟨p, hp⟩ : ∃ p, f k = p := ⟨_, rfl⟩
      rw [hp] at c0 c1 c2 x1 x2 x3
      clear hp hcell
      have i0 : (0 : Int) ≤ (k : Int) := by omega
      have i1 : (k : Int) < (m : Int) := by omega
      have HK2 := hide (HK.out.below (below_alloc wr (.cells #[.int .i64 p.x, .int .i64 p.y, .int .i64 p.d] 32)))
      have HX2 := hide (HX.out.alloc (.cells #[.int .i64 p.x, .int .i64 p.y, .int .i64 p.d] 32))
      have HPB := hide (Bx.new wr [.int .i64 p.x, .int .i64 p.y, .int .i64 p.d] 32)
      obtain ⟨d0, d1, d2⟩ := HPB.out.three
      have HTT := hide (fun w h => HT.out g p w h x1 x2)
      obtain ⟨gp, hgp⟩ : ∃ gp, wr.heap.size = gp := ⟨_, rfl⟩
      have HGP := Lib.hid hgp
      have HRR := hide (HR.out p)
      by_cases kr : RightZ p.x p.y p.d
      · rw [decide_eq_true kr] at HRR
        have HRA := hide (fun w h => HRT.out p w h kr)
        by_cases ks : l.sees p.x p.y p.d
        · rw [if_pos ⟨kr, ks⟩] at HTT
          rw [if_pos ks] at HRA
          clear kr ks hgp
          go_wp2_with fail
          refine (HTT.out _ HX2.out).mono ?_
          rintro e w5 ⟨rfl, hb⟩
          have HK3 := hide (HK2.out.below hb)
          have HX3 := hide (HX2.out.below hb)
          have HP3 := hide (HPB.out.below hb)
          clear hb HK2 HX2 HPB HK HX c0 c1 c2 d0 d1 d2
          obtain ⟨d0, d1, d2⟩ := HP3.out.three
          go_wp2_with fail
          refine (HRR.out _).mono ?_
          rintro e w6 ⟨rfl, rfl⟩
          go_wp2_with fail
          refine (HRA.out _ HK3.out.2.1).mono ?_
          rintro e w7 ⟨rfl, hb⟩
          have HK4 := hide (HK3.out.below hb)
          have HX4 := hide (HX3.out.below hb)
          clear hb HK3 HX3 d0 d1 d2 HP3
          go_wp2_with fail
          go_roundw
          case rel => exact ⟨k + 1, by omega, by go_num, HK4.out, HX4.out⟩
          case measure => simp [intOf]; omega
        · rw [if_neg (fun q => ks q.2)] at HTT
          rw [if_neg ks] at HRA
          clear kr ks hgp
          go_wp2_with fail
          refine (HTT.out _ HX2.out).mono ?_
          rintro e w5 ⟨rfl, hb⟩
          have HK3 := hide (HK2.out.below hb)
          have HX3 := hide (HX2.out.below hb)
          have HP3 := hide (HPB.out.below hb)
          clear hb HK2 HX2 HPB HK HX c0 c1 c2 d0 d1 d2
          obtain ⟨d0, d1, d2⟩ := HP3.out.three
          go_wp2_with fail
          refine (HRR.out _).mono ?_
          rintro e w6 ⟨rfl, rfl⟩
          go_wp2_with fail
          refine (HRA.out _ HK3.out.2.1).mono ?_
          rintro e w7 ⟨rfl, hb⟩
          have HK4 := hide (HK3.out.below hb)
          have HX4 := hide (HX3.out.below hb)
          clear hb HK3 HX3 d0 d1 d2 HP3
          go_wp2_with fail
          go_roundw
          case rel => exact ⟨k + 1, by omega, by go_num, HK4.out, HX4.out⟩
          case measure => simp [intOf]; omega
      · rw [decide_eq_false kr] at HRR
        rw [if_neg (fun q => kr q.1)] at HTT
        clear kr hgp
        go_wp2_with fail
        refine (HTT.out _ HX2.out).mono ?_
        rintro e w5 ⟨rfl, hb⟩
        have HK3 := hide (HK2.out.below hb)
        have HX3 := hide (HX2.out.below hb)
        have HP3 := hide (HPB.out.below hb)
        clear hb HK2 HX2 HPB HK HX c0 c1 c2 d0 d1 d2
        obtain ⟨d0, d1, d2⟩ := HP3.out.three
        go_wp2_with fail
        refine (HRR.out _).mono ?_
        rintro e w6 ⟨rfl, rfl⟩
        go_wp2_with fail
        go_roundw
        case rel => exact ⟨k + 1, by omega, by go_num, HK3.out, HX3.out⟩
        case measure => simp [intOf]; omega
    · obtain rfl : k = m := by omega
      go_wp2_with fail
      refine (HA.out _).mono ?_
      rintro e w9 ⟨rfl, hb⟩
      have HB9 := hide (HK.out.below hb).2.2.2
      clear hb
      go_wp2_with fail
      go_ret
      exact ⟨rfl, HB9.out⟩

theorem LensAsks_walk (A : Option Addr) (n c : Nat) (xs : List Int) (sw sh : Int) (B : Option Addr) (m cap : Nat) (f : Nat → Pl3) (w : World) (h : IY w A n c xs) (hp : PY w B m f) :
    Calls Try.prog 3 #[.slice A n c, .agg #[.int .i64 sw, .int .i64 sh], .slice B m cap] w (Says w (.bool true)) := by
  by_cases h1 : 60 < n
  · have i1 : (60 : Int) < (n : Int) := by omega
    have HB := hide (below_alloc w)
    clear h hp
    go_enter Try.func3, Try.ntmps3
    go_wp2_with fail
    go_ret
    exact ⟨rfl, HB.out _⟩
  · by_cases h2 : 60 < m
    · have i1 : ¬ (60 : Int) < (n : Int) := by omega
      have i2 : (60 : Int) < (m : Int) := by omega
      have HB := hide (below_alloc w)
      clear h hp
      go_enter Try.func3, Try.ntmps3
      go_wp2_with fail
      go_ret
      exact ⟨rfl, HB.out _⟩
    · by_cases hE : lensE xs sw sh = 0
      · have h7 := (lensC_zero (lensE_C hE)).1
        obtain ⟨l, rfl⟩ := seven h7
        obtain rfl : 7 = n := h7.symm.trans h.1
        obtain ⟨b, o, rfl⟩ := h.some (by omega)
        exact LensAsks_ok b o c l sw sh B m cap f w h hp (by omega) hE
      · exact LensAsks_bad A n c xs sw sh B m cap f w h hp (by omega) (by omega) hE
end Go.Proofs.Ytgcnmffbhjlolaa
