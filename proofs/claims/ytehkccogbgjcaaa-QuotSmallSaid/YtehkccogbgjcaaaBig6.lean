/-
Contracts of the reference's whole numbers: Mul. No statement is proved here.
-/
import Derived.Test.YtehkccogbgjcaaaBig5
import Derived.Deep.QuietTactic
import Derived.BigQuiet
import Derived.IntWalk
import Derived.StillTailTactics
namespace Go.Proofs.Ytehkccogbgjcaaa
open Go.RowKit

/-- a row of digits that is a block of its own -/
def Row (w : World) (g : Nat) (o : List Nat) : Prop := w.heap[g]? = some (.cells (dv o).toArray 3 (0, 0))
theorem Row.cell {w : World} {g : Nat} {o : List Nat} (h : Row w g o) {j : Nat} (hj : j < o.length) : w.cell? ⟨g, j, none⟩ = some (.int .i64 (dgn o j : Nat)) := by
  rw [cell_of_row w g j _ _ (0, 0) h]
  simp [dv, dgn, List.getElem?_eq_getElem hj]
theorem Row.frozen {w : World} {g : Nat} {o : List Nat} (h : Row w g o) (j : Nat) : w.frozen? ⟨g, j, none⟩ = false := by
  unfold Row at h; simp [World.frozen?, h]
theorem Row.lt {w : World} {g : Nat} {o : List Nat} (h : Row w g o) : g < w.heap.size := heap_lt h
theorem Row.set_ {w : World} {g : Nat} {o : List Nat} (h : Row w g o) (j x : Nat) : Row (w.setCell ⟨g, j, none⟩ (.int .i64 (x : Int))) g (o.set j x) := by
  unfold Row at h ⊢
  simp [World.setCell, Array.getElem?_modify, h, dv, List.map_set]
theorem Row.drewN {w : World} {g : Nat} {o : List Nat} (h : Row w g o) (k : Nat) : Row (w.drewN k) g o := h
theorem below_drewN {B : Nat} {a w : World} (h : Below B a w) (n : Nat) : Below B a (w.drewN n) := ⟨h.os, h.tape, h.output, h.size, h.block⟩

theorem DW.of_row {w : World} {g n : Nat} {o : List Nat} (h : Row w g o) (hn : o.length = n) (hm : n ≤ maxLen) : DW w (some ⟨g, 0, none⟩) n n o := by
  subst hn
  refine ⟨rfl, Nat.le_refl _, hm, ⟨by simp [dv], fun _ => ⟨_, rfl, h.lt, fun j u hu => ?_⟩⟩, fun ad e => ?_⟩
  · have hj : j < o.length := by have := (List.getElem?_eq_some_iff.1 hu).1; simpa [dv] using this
    rw [show (⟨g, 0, none⟩ : Addr).add j = ⟨g, j, none⟩ by unfold Addr.add; split <;> simp_all, h.cell hj, ← hu]
    simp [dv, dgn, List.getElem?_eq_getElem hj]
  · injection e with e; subst e; exact ⟨_, _, h⟩

def MulOut (W : World) (g : Nat) (la lb : List Nat) (i : Nat) (o : List Nat) (wr : World) : Prop :=
  o.length = la.length + lb.length + 1 ∧ Dig o ∧ val o = V (dgn la) i * val lb ∧ (∀ j, i + lb.length ≤ j → dgn o j = 0) ∧ Row wr g o ∧ Below g W wr
def MulIn (W : World) (g : Nat) (la lb : List Nat) (i k c : Nat) (o : List Nat) (wr : World) : Prop :=
  o.length = la.length + lb.length + 1 ∧ Dig o ∧ c < 32768 ∧ val o + c * 32768 ^ (i + k) = V (dgn la) i * val lb + dgn la i * V (dgn lb) k * 32768 ^ i ∧ (∀ j, i + lb.length ≤ j → dgn o j = 0) ∧ Row wr g o ∧ Below g W wr

theorem MulOut.inn {W wr : World} {g i : Nat} {la lb o : List Nat} (h : MulOut W g la lb i o wr) : MulIn W g la lb i 0 0 o wr := by
  obtain ⟨h1, h2, h3, h4, h5, h6⟩ := h
  exact ⟨h1, h2, by omega, by rw [h3]; simp [V], h4, h5, h6⟩
theorem MulIn.step {W wr : World} {g i k c x nd : Nat} {la lb o : List Nat} (h : MulIn W g la lb i k c o wr) (hi : i < la.length) (hk : k < lb.length) (da : Dig la) (db : Dig lb) (hx : x = dgn o (i + k) + dgn la i * dgn lb k + c) :
    MulIn W g la lb i (k + 1) (x / 32768) (o.set (i + k) (x % 32768)) ((wr.drewN nd).setCell ⟨g, i + k, none⟩ (.int .i64 ((x % 32768 : Nat) : Int))) := by
  obtain ⟨h1, h2, h3, h4, h5, h6, h7⟩ := h
  have hlt : i + k < o.length := by omega
  refine ⟨by rw [List.length_set, h1], Dig_set h2 hlt (by omega), mul_carry (h2 _) (da _) (db _) h3 hx, mul_step hlt h4 hx, fun j hj => ?_, (h6.drewN nd).set_ _ _, (below_drewN h7 nd).setCell (Nat.le_refl _) _⟩
  rw [dgn_set hlt, if_neg (by omega)]; exact h5 j hj
theorem MulIn.end_ {W wr : World} {g i c : Nat} {la lb o : List Nat} (h : MulIn W g la lb i lb.length c o wr) (hi : i < la.length) :
    dgn o (i + lb.length) = 0 ∧ MulOut W g la lb (i + 1) (o.set (i + lb.length) c) (wr.setCell ⟨g, i + lb.length, none⟩ (.int .i64 (c : Int))).drew := by
  obtain ⟨h1, h2, h3, h4, h5, h6, h7⟩ := h
  have hlt : i + lb.length < o.length := by omega
  have hz := h5 _ (Nat.le_refl _)
  refine ⟨hz, by rw [List.length_set, h1], Dig_set h2 hlt h3, ?_, fun j hj => ?_, h6.set_ _ _, (h7.setCell (Nat.le_refl _) _).drew⟩
  · rw [mul_end hlt hz h4, V, Nat.add_mul]
    have e : V (dgn lb) lb.length = val lb := rfl
    rw [e, Nat.mul_right_comm]
  · rw [dgn_set hlt, if_neg (by omega)]; exact h5 j (by omega)

theorem run_make_ints {n : Nat} (hn : n ≤ 10000000) (w : World) :
    (Instr.makeSlice 22 (.int .i64 (n : Int)) (.int .i64 (n : Int))).run Try.prog w = .ok (.slice (some ⟨w.heap.size, 0, none⟩) n n) (w.alloc (.cells (dv (List.replicate n 0)).toArray 3)) := by
  obtain ⟨i0, hi, hz0, hz1, hz2⟩ := info_parts infoInt
  have hr := run_make (P := Try.prog) w 22 3 i0 (.int .i64 0) Try.underlying22 hi hz0 .i64 .i64 n n (by omega) (by omega) (by rw [hz2]; omega) (by omega)
  simp only [Int.toNat_natCast] at hr
  rw [hr, hz1]
  have e : madeCells (Value.int .i64 0).cells (n * 1) = (dv (List.replicate n 0)).toArray := by
    apply Array.ext'
    rw [show (Value.int .i64 0).cells = #[Value.int .i64 0] from rfl, toList_madeCells_one]
    simp [dv]
  rw [e]

theorem mul_start {w : World} {la lb : List Nat} {m : Nat} (hm : m = la.length + lb.length + 1) (B : Nat) (hB : B = w.heap.size) : MulOut w B la lb 0 (List.replicate m 0) (w.alloc (.cells (dv (List.replicate m 0)).toArray 3)) := by
  subst hB
  have hz : ∀ j, dgn (List.replicate m 0) j = 0 := fun j => by unfold dgn; rw [List.getD_eq_getElem?_getD, List.getElem?_replicate]; split <;> rfl
  refine ⟨by rw [List.length_replicate, hm], fun k => by rw [hz]; omega, ?_, fun j _ => hz j, heap_alloc_new w _, below_alloc w _⟩
  have e : val (List.replicate m 0) = V (fun _ => 0) m := by unfold val; rw [List.length_replicate]; exact V_congr fun k _ => hz k
  have e2 : ∀ n, V (fun _ => 0) n = 0 := fun n => by
    induction n with
    | zero => rfl
    | succ n ih => simp [V, ih]
  rw [e, e2]; simp [V]

theorem mul_small {x o a b c : Nat} (hx : x = o + a * b + c) (ho : o < 32768) (ha : a < 32768) (hb : b < 32768) (hc : c < 32768) : (x : Int) ≤ 1073774592 := by
  have : a * b ≤ 32767 * 32767 := Nat.mul_le_mul (by omega) (by omega)
  omega
theorem mul_wrap {x o a b c : Nat} (hx : x = o + a * b + c) (ho : o < 32768) (ha : a < 32768) (hb : b < 32768) (hc : c < 32768) :
    wrap64 (wrap64 ((o : Int) + wrap64 ((a : Int) * (b : Int))) + (c : Int)) = (x : Int) := by
  have h1 : a * b ≤ 32767 * 32767 := Nat.mul_le_mul (by omega) (by omega)
  have h2 : (a : Int) * (b : Int) = ((a * b : Nat) : Int) := by simp
  rw [h2, IntWalk.wrap64_in ((a * b : Nat) : Int) (by omega), IntWalk.wrap64_in ((o : Int) + ((a * b : Nat) : Int)) (by omega), IntWalk.wrap64_in _ (by omega)]
  omega

set_option maxHeartbeats 4000000 in
set_option maxRecDepth 100000 in
theorem Mul_nw (s s1 : Bool) (A A' : Option Addr) (n n' c c' : Nat) (la lb : List Nat) (w : World) (hn : n ≤ 1000000) (hn' : n' ≤ 1000000) (ha : DW w A n c la) (hb : DW w A' n' c' lb) (da : Dig la) (db : Dig lb) (z : Int)
    (hz : Hid ((if (s != s1) = true then -((val la * val lb : Nat) : Int) else (val la * val lb : Nat)) = z)) :
    Calls Try.prog 56 #[.agg #[.bool s, .slice A n c], .agg #[.bool s1, .slice A' n' c']] w (MadeB w (n + n' + 1) z) := by
  obtain ⟨m, hm⟩ : ∃ m, m = n + n' + 1 := ⟨_, rfl⟩
  have hmk : ∀ (w : World), (Instr.makeSlice 22 (.int .i64 ((n : Int) + (n' : Int) + 1)) (.int .i64 ((n : Int) + (n' : Int) + 1))).run Try.prog w = .ok (.slice (some ⟨w.heap.size, 0, none⟩) m m) (w.alloc (.cells (dv (List.replicate m 0)).toArray 3)) := fun w => by
    have := run_make_ints (n := m) (by omega) w
    rw [show (m : Int) = (n : Int) + (n' : Int) + 1 by omega] at this
    exact this
  have hm1 : n + n' + 1 ≤ m := by omega
  have hm2 : m ≤ n + n' + 1 := by omega
  have Hm := Lib.hid hm
  have HL := Lib.hid ha.1
  have HL' := Lib.hid hb.1
  have HA := hide ha
  have HA' := hide hb
  have Da := hide da
  have Db := hide db
  have HS := hide (Three.cells w s s1 A A' n n' c c')
  have Hst := hide (fun m => mul_start (w := Three w s s1 A A' n n' c c') (la := la) (lb := lb) (m := m))
  clear ha hb da db hm
  go_enter Try.func56, Try.ntmps56
  go_wp2_with fail
  go_loopw [6] (fun i wr => ∃ (k : Nat) (o : List Nat), k ≤ n ∧ i = .int .i64 k ∧ MulOut (Three w s s1 A A' n n' c c') (w.heap.size + 1 + 1 + 1) la lb k o wr) (fun i _ => n - (intOf i).toNat)
  case atStart => exact ⟨0, _, by omega, rfl, Hst.out m (by rw [HL.out, HL'.out]; exact Hm.out) _ (by rw [Three.size])⟩
  case round =>
    clear Hst
    obtain ⟨k, o, hk, rfl, hM⟩ := hrel
    have hbel : Bel (Three w s s1 A A' n n' c c') wr := by unfold Bel; rw [Three.size]; exact hM.2.2.2.2.2
    obtain ⟨_, q1, q2, q3, q4, q5, q6, q7, q8⟩ := HS.out _ hbel
    by_cases hlt : k < n
    · have HI := hide hM.inn
      clear hM hbel
      go_wp2_with fail
      obtain ⟨wo, hwo⟩ : ∃ wo : World, wo = wr := ⟨_, rfl⟩
      subst hwo
      go_loopw [7, 8] (fun cr kk wr => ∃ (j y : Nat) (o : List Nat), j ≤ n' ∧ kk = .int .i64 j ∧ cr = .int .i64 y ∧ MulIn (Three w s s1 A A' n n' c c') (w.heap.size + 1 + 1 + 1) la lb k j y o wr) (fun _ kk _ => n' - (intOf kk).toNat)
      case atStart => exact ⟨0, 0, o, by omega, rfl, rfl, HI.out⟩
      case round =>
        clear HI q1 q2 q3 q4 q5 q6 q7 q8
        obtain ⟨j, cr, o2, hj, rfl, rfl, hM⟩ := hrel
        have hbel : Bel (Three w s s1 A A' n n' c c') wr := by unfold Bel; rw [Three.size]; exact hM.2.2.2.2.2.2
        obtain ⟨_, q1, q2, q3, q4, q5, q6, q7, q8⟩ := HS.out _ hbel
        have hB := (Three.below w s s1 A A' n n' c c').trans (hbel.mono (by rw [Three.size]; omega))
        have hlen := hM.1
        rw [HL.out, HL'.out] at hlen
        have hc0 := hM.2.2.1
        have hg := hM.2.2.2.2.2.1.lt
        by_cases hlt2 : j < n'
        · obtain ⟨ad, hA, hb1, hca⟩ := (HA.out.below hB).cell (k := k) hlt
          obtain ⟨ad2, hA2, hb2, hcb⟩ := (HA'.out.below hB).cell (k := j) hlt2
          have hco := hM.2.2.2.2.2.1.cell (j := k + j) (by omega)
          have hfo := hM.2.2.2.2.2.1.frozen (k + j)
          subst hA hA2
          obtain ⟨x, hx⟩ : ∃ x : Nat, x = dgn o2 (k + j) + dgn la k * dgn lb j + cr := ⟨_, rfl⟩
          have hw := Lib.hid (mul_wrap hx (hM.2.1 _) (Da.out k) (Db.out j) hc0)
          have Hx2 := hide (mul_small hx (hM.2.1 _) (Da.out k) (Db.out j) hc0)
          have Hx := Lib.hid hx
          replace hM := hide hM
          clear hbel hB hlen hx
          go_wp2_with fail
          go_quiet (fail)
          rw [hw.out]
          have Hr := hide (hM.out.step (nd := nq) (x := x) (by rw [HL.out]; omega) (by rw [HL'.out]; omega) Da.out Db.out Hx.out)
          have hq := Hx2.out
          rw [show ((x % 32768 : Nat) : Int) = (x : Int) % 32768 by omega] at Hr
          go_wp2_with fail
          go_roundw
          case rel => exact ⟨j + 1, x / 32768, _, by omega, by go_num, by rw [show ((x / 32768 : Nat) : Int) = (x : Int) / 32768 by omega], Hr.out⟩
          case measure => simp [intOf]; omega
        · have hjn : j = n' := by omega
          subst hjn
          have hE := MulIn.end_ (i := k) (by rw [HL'.out]; exact hM) (by rw [HL.out]; exact hlt)
          rw [HL'.out] at hE
          have hz0 := hE.1
          have hco := hM.2.2.2.2.2.1.cell (j := k + j) (by omega)
          have hfo := hM.2.2.2.2.2.1.frozen (k + j)
          rw [hz0] at hco
          replace hM := hide hE.2
          clear hE hz0 hbel hB hlen
          have i1 : ((k : Int) + (j : Int)) < (m : Int) := by omega
          have i2 : 0 ≤ ((k : Int) + (j : Int)) := by omega
          have i3 : ((k : Int) + (j : Int)).toNat = k + j := by omega
          have i4 : IntKind.i64.wrap ((k : Int) + (j : Int)) = (k : Int) + (j : Int) := IntWalk.i64_in _ (by omega)
          go_wp2_with fail
          go_still_tail 17, (by kernel_rfl)
          change wpList _ _ _ _ _ wr.drew
          clear i1 i2 i3 i4
          go_wp2_with fail
          go_roundw
          case rel => exact ⟨k + 1, _, by omega, by go_num, hM.out⟩
          case measure => simp [intOf]; omega
    · have hkn : k = n := by omega
      subst hkn
      have hv : val o = val la * val lb := by rw [hM.2.2.1, ← HL.out]; rfl
      have hD := DW.of_row hM.2.2.2.2.1 (n := m) (by rw [hM.1, HL.out, HL'.out]; omega) (by unfold maxLen; omega)
      have Hd := hide hM.2.1
      have Hv := Lib.hid hv
      have HD := hide hD
      have HK := hide hbel
      have HX := hide (Three.box w s s1 A A' k n' c c')
      have HB := hide fun w' (hb : Bel (Three w s s1 A A' k n' c c') w') => (Three.below w s s1 A A' k n' c c').trans (hb.mono (by rw [Three.size]; omega))
      have H4 := hide (Three.args w s s1 A A' k n' c c')
      have H5 := hide (Three.after w s s1 A A' k n' c c')
      clear hM hbel hv hD
      go_wp2_with fail
      go_region_held3 (fun w' => w'.cell? ⟨w.heap.size, 0, none⟩ = some (.bool s) ∧ w'.cell? ⟨w.heap.size, 1, none⟩ = some (.slice A k c) ∧ w'.cell? ⟨w.heap.size + 1, 0, none⟩ = some (.bool s1) ∧ w'.cell? ⟨w.heap.size + 1, 1, none⟩ = some (.slice A' n' c'))
        (first | (refine H4.out _ ?_; first | assumption | exact HK.out | exact Bel.drew HK.out | (refine Bel.drew ?_; assumption)) | (refine H5.out _ _ _ ?_; assumption))
        (first
          | (go_at_call 77; refine (trim_any _ _ _ o _ (by exact HD.out)).mono ?_; intro e w1 ht; have hT := Made.of_trim (N := m) ht HD.out Hd.out Hv.out (Nat.le_refl _) (Below.refl _ _); clear ht; obtain ⟨A1, n1, c1, rfl, hN1, hb1⟩ := hT; have hk1 : Bel (Three w s s1 A A' k n' c c') w1 := Bel.trans (by first | assumption | exact HK.out | exact Bel.drew HK.out | (refine Bel.drew ?_; assumption)) hb1)
          | (go_at_call 80; refine (made_any m (s != s1) _ _ _ _ _ (by assumption)).mono ?_; rintro e w2 ⟨s2, A2, n2, c2, rfl, hB2, hb2⟩; have hk2 : Bel (Three w s s1 A A' k n' c c') w2 := Bel.trans (by first | assumption | exact HK.out | exact Bel.drew HK.out | (refine Bel.drew ?_; assumption)) hb2; obtain ⟨_, r1, r2, r3, r4, r5, r6, r7, r8⟩ := HS.out _ hk2))
      rw [hz.out] at hB2
      replace hB2 := hB2.more hm2
      have HB2 := hide hB2
      have HK2 := hide hk2
      clear hB2 hk2
      go_wp2_with fail
      refine bodyPost_ret (v := .agg #[.bool s2, .slice A2 n2 c2]) (by simp [results, Try.results56, go_sem, r5, r6]) rfl ?_
      exact MadeB.fin (HB.out _ HK2.out) (by omega) (HX.out _ HK2.out) HB2.out _ _

theorem Mul_any (M M' : Nat) (hM : M ≤ 1000000) (hM' : M' ≤ 1000000) (s s' : Bool) (A A' : Option Addr) (n n' c c' : Nat) (z z' : Int) (w : World) (h : BV w M s A n c z) (h' : BV w M' s' A' n' c' z') :
    Calls Try.prog 56 #[.agg #[.bool s, .slice A n c], .agg #[.bool s', .slice A' n' c']] w (MadeB w (M + M' + 1) (z * z')) := by
  obtain ⟨v, ⟨l, h1, h2, h3, rfl, h5⟩, h6, rfl⟩ := h
  obtain ⟨v', ⟨l', g1, g2, g3, rfl, g5⟩, g6, rfl⟩ := h'
  refine (Mul_nw s s' A A' n n' c c' l l' w (by omega) (by omega) h1 g1 h2 g2 _ ?_).mono fun e w' hm => hm.more (by omega)
  show _ = _
  cases s <;> cases s' <;> simp [Int.natCast_mul, Int.neg_mul, Int.mul_neg]

end Go.Proofs.Ytehkccogbgjcaaa
