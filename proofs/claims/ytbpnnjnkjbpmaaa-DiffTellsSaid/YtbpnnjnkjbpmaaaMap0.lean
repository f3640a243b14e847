/-
Contracts of package diff: the image of the differences, and whether no difference is greater. No statement is proved here.
-/
import Derived.Test.YtbpnnjnkjbpmaaaDiff2
import Derived.Test.YtbpnnjnkjbpmaaaDiff4
import Derived.Test.YtbpnnjnkjbpmaaaNew0
import Derived.StillTailTactics
namespace Go.Proofs.Ytbpnnjnkjbpmaaa
open Go.RowKit

abbrev noImg : List Value := [.int .i64 0, .int .i64 0, .int .i64 0, .slice none 0 0]
set_option maxHeartbeats 1000000 in
theorem Map_err (x y c x' y' c' : Int) (A A' : Option Addr) (n cap n' cap' : Nat) (h : dchkZ x y c n x' y' c' n' ≠ 0) (w : World) :
    Calls Try.prog 8 #[.agg #[.int .i64 x, .int .i64 y, .int .i64 c, .slice A n cap], .agg #[.int .i64 x', .int .i64 y', .int .i64 c', .slice A' n' cap']] w (Says w (.tuple #[.agg #[.int .i64 0, .int .i64 0, .int .i64 0, .slice none 0 0], .int .i64 (dchkZ x y c n x' y' c' n')])) := by
  have HC := hide (fun w => DCheck_any x y c x' y' c' A A' n cap n' cap' w)
  have H := hide (below_alloc3 w (.cells #[.int .i64 x, .int .i64 y, .int .i64 c, .slice A n cap] 24) (.cells #[.int .i64 x', .int .i64 y', .int .i64 c', .slice A' n' cap'] 24) (.cells #[.int .i64 0, .int .i64 0, .int .i64 0, .slice none 0 0] 24))
  have HZ := hide (Bx.at (w := (w.alloc (.cells #[.int .i64 x, .int .i64 y, .int .i64 c, .slice A n cap] 24)).alloc (.cells #[.int .i64 x', .int .i64 y', .int .i64 c', .slice A' n' cap'] 24)) (g := w.heap.size + 1 + 1) noImg 24 (by simp))
  obtain ⟨f, hf⟩ : ∃ f, dchkZ x y c n x' y' c' n' = f := ⟨_, rfl⟩
  rw [hf] at HC h ⊢
  have k1 : (f != 0) = true := by simpa using h
  clear hf h
  go_enter Try.func8, Try.ntmps8
  go_wp2_with fail
  refine (HC.out _).mono ?_
  rintro e w1 ⟨rfl, hb⟩
  obtain ⟨_, z0, z1, z2, z3, f0, f1, f2, f3⟩ := (HZ.out.below hb).four
  have L1 := hide (H.out.trans (hb.mono (by simp; omega)))
  clear hb
  go_wp2_with fail
  refine bodyPost_ret (v := .tuple #[.agg #[.int .i64 0, .int .i64 0, .int .i64 0, .slice none 0 0], .int .i64 f]) (by simp [results, Try.results8, go_sem, z0, z1, z2, z3]) rfl ⟨rfl, ?_⟩
  exact below_set4 L1.out (by omega) _ _ _ _

/-- the bytes of the image of the differences, up to the k'th -/
def mapped (xs ys : List Int) (n k : Nat) : List Value := (List.range n).map fun i => .int .u8 (if i < k then absd (xs.getD i 0) (ys.getD i 0) else 0)
theorem mapped_zero (xs ys : List Int) (n : Nat) : mapped xs ys n 0 = noughts n := by
  apply List.ext_getElem?
  intro i
  simp [mapped, noughts, List.getElem?_replicate]
  split <;> simp_all
theorem mapped_set (xs ys : List Int) (n k : Nat) (hk : k < n) : (mapped xs ys n k).set k (.int .u8 (absd (xs.getD k 0) (ys.getD k 0))) = mapped xs ys n (k + 1) := by
  apply List.ext_getElem?
  intro i
  by_cases e : k = i
  · subst e
    simp [mapped, hk]
  · rw [List.getElem?_set_ne e]
    rcases Nat.lt_or_ge i n with q | q
    · simp only [mapped, List.getElem?_map, List.getElem?_range q, Option.map_some]
      congr 2
      by_cases q2 : i < k
      · rw [if_pos q2, if_pos (by omega)]
      · rw [if_neg q2, if_neg (by omega)]
    · simp [mapped, q]
theorem mapped_length (xs ys : List Int) (n k : Nat) : (mapped xs ys n k).length = n := by simp [mapped]
/-- the bytes as numbers -/
def mapI (xs ys : List Int) (n : Nat) : List Int := (List.range n).map fun i => absd (xs.getD i 0) (ys.getD i 0)
theorem BY.mapped {w : World} {g n : Nat} {xs ys : List Int} (hx : ∀ x ∈ xs, 0 ≤ x ∧ x ≤ 255) (hy : ∀ x ∈ ys, 0 ≤ x ∧ x ≤ 255) (hn : n ≤ 100000000) (h : Bx w g (mapped xs ys n n)) : BY w (some ⟨g, 0, none⟩) n n (mapI xs ys n) := by
  refine ⟨by simp [mapI], Nat.le_refl _, by unfold maxLen; omega, fun x hx' => ?_, fun _ => ⟨g, 0, rfl, h.1, fun i hi => ?_⟩⟩
  · simp only [mapI, List.mem_map] at hx'
    obtain ⟨i, _, rfl⟩ := hx'
    have := absd_in (getD_byte hx i) (getD_byte hy i)
    omega
  · have hv : (Go.Proofs.Ytbpnnjnkjbpmaaa.mapped xs ys n n)[i]? = some (.int .u8 (absd (xs.getD i 0) (ys.getD i 0))) := by simp [Go.Proofs.Ytbpnnjnkjbpmaaa.mapped, hi]
    have := (h.2 i _ hv).1
    rw [Nat.zero_add, this]
    simp [mapI, List.getD_eq_getElem?_getD, hi]

/-- the image of the differences -/
def MapPost (w : World) (x y c : Int) (n : Nat) (xs ys : List Int) (e : Ending) (w' : World) : Prop :=
  ∃ g, e = .returned (.tuple #[.agg #[.int .i64 x, .int .i64 y, .int .i64 c, .slice (some ⟨g, 0, none⟩) n n], .int .i64 0]) ∧ w.heap.size ≤ g ∧ Bx w' g (mapped xs ys n n) ∧ Below w.heap.size w w'

/-- what lies there while the image is filled -/
def MapK (w : World) (x y c : Int) (A A' : Option Addr) (n cap cap' : Nat) (m g : Nat) (xs ys : List Int) (k : Nat) (w' : World) : Prop :=
  Bx w' w.heap.size [.int .i64 x, .int .i64 y, .int .i64 c, .slice A n cap] ∧ Bx w' (w.heap.size + 1) [.int .i64 x, .int .i64 y, .int .i64 c, .slice A' n cap'] ∧ Bx w' (w.heap.size + 1 + 1) noImg ∧ Bx w' m [.int .i64 x, .int .i64 y, .int .i64 c, .slice (some ⟨g, 0, none⟩) n n] ∧ Bx w' g (mapped xs ys n k) ∧ Below w.heap.size w w'
theorem MapK.drew {w : World} {x y c : Int} {A A' : Option Addr} {n cap cap' m g : Nat} {xs ys : List Int} {k : Nat} {w' : World} (h : MapK w x y c A A' n cap cap' m g xs ys k w') : MapK w x y c A A' n cap cap' m g xs ys k w'.drew :=
  ⟨h.1, h.2.1, h.2.2.1, h.2.2.2.1, h.2.2.2.2.1, h.2.2.2.2.2.drew⟩
theorem MapK.put {w : World} {x y c : Int} {A A' : Option Addr} {n cap cap' m g : Nat} {xs ys : List Int} {k : Nat} {w' : World} (h : MapK w x y c A A' n cap cap' m g xs ys k w') (hg : w.heap.size + 3 ≤ g) (hm : g < m) (hk : k < n) {t : Int} (ht : t = absd (xs.getD k 0) (ys.getD k 0)) :
    MapK w x y c A A' n cap cap' m g xs ys (k + 1) (w'.setCell ⟨g, k, none⟩ (.int .u8 t)) := by
  subst ht
  refine ⟨h.1.other (by omega) _, h.2.1.other (by omega) _, h.2.2.1.other (by omega) _, h.2.2.2.1.other (by omega) _, ?_, h.2.2.2.2.2.setCell (show w.heap.size ≤ g by omega) _⟩
  rw [← mapped_set xs ys n k hk]
  exact h.2.2.2.2.1.set k (by rw [mapped_length]; exact hk) _
theorem MapK.cell {w : World} {x y c : Int} {A A' : Option Addr} {n cap cap' m g : Nat} {xs ys : List Int} {k : Nat} {w' : World} (h : MapK w x y c A A' n cap cap' m g xs ys k w') (hk : k < n) : w'.cell? ⟨g, k, none⟩ = some (.int .u8 0) ∧ w'.frozen? ⟨g, k, none⟩ = false :=
  h.2.2.2.2.1.2 k _ (by simp [mapped, hk])

set_option maxHeartbeats 4000000 in
theorem Map_ok (x y c : Int) (A A' : Option Addr) (n cap cap' : Nat) (xs ys : List Int) (w : World) (h : BY w A n cap xs) (h' : BY w A' n cap' ys) (hd : dchkZ x y c n x y c n = 0) :
    Calls Try.prog 8 #[.agg #[.int .i64 x, .int .i64 y, .int .i64 c, .slice A n cap], .agg #[.int .i64 x, .int .i64 y, .int .i64 c, .slice A' n cap']] w (MapPost w x y c n xs ys) := by
  have HC := hide (fun w => DCheck_any x y c x y c A A' n cap n cap' w)
  rw [hd] at HC
  obtain ⟨hf, _, _, _, hn, _⟩ := dchk_ok hd
  have HN := hide (fun w => New_ok x y c w hf n hn.symm)
  have hnb : n ≤ 16777216 := by have := prods_in hf; omega
  have HB1 := hide (fun w' (hb : Below w.heap.size w w') => h.below hb)
  have HB2 := hide (fun w' (hb : Below w.heap.size w w') => h'.below hb)
  have HY1 := hide (getD_byte h.2.2.2.1)
  have HY2 := hide (getD_byte h'.2.2.2.1)
  have P1 := hide (((Bx.at (w := w) (g := w.heap.size) [.int .i64 x, .int .i64 y, .int .i64 c, .slice A n cap] 24 rfl).alloc (.cells #[.int .i64 x, .int .i64 y, .int .i64 c, .slice A' n cap'] 24)).alloc (.cells #[.int .i64 0, .int .i64 0, .int .i64 0, .slice none 0 0] 24))
  have P2 := hide ((Bx.at (w := w.alloc (.cells #[.int .i64 x, .int .i64 y, .int .i64 c, .slice A n cap] 24)) (g := w.heap.size + 1) [.int .i64 x, .int .i64 y, .int .i64 c, .slice A' n cap'] 24 (by simp)).alloc (.cells #[.int .i64 0, .int .i64 0, .int .i64 0, .slice none 0 0] 24))
  have P3 := hide (Bx.at (w := (w.alloc (.cells #[.int .i64 x, .int .i64 y, .int .i64 c, .slice A n cap] 24)).alloc (.cells #[.int .i64 x, .int .i64 y, .int .i64 c, .slice A' n cap'] 24)) (g := w.heap.size + 1 + 1) noImg 24 (by simp))
  have H := hide (below_alloc3 w (.cells #[.int .i64 x, .int .i64 y, .int .i64 c, .slice A n cap] 24) (.cells #[.int .i64 x, .int .i64 y, .int .i64 c, .slice A' n cap'] 24) (.cells #[.int .i64 0, .int .i64 0, .int .i64 0, .slice none 0 0] 24))
  clear h h' hd hf hn
  go_enter Try.func8, Try.ntmps8
  go_wp2_with fail
  refine (HC.out _).mono ?_
  rintro e w1 ⟨rfl, hb⟩
  have Q1 := hide (P1.out.below hb)
  have Q2 := hide (P2.out.below hb)
  have Q3 := hide (P3.out.below hb)
  have L1 := hide (H.out.trans (hb.mono (by simp; omega)))
  have hz : w.heap.size + 3 ≤ w1.heap.size := by have := hb.size; simp at this; omega
  clear hb P1 P2 P3 H
  obtain ⟨_, a0, a1, a2, a3, _, _, _, _⟩ := Q1.out.four
  go_wp2_with fail
  refine (HN.out _).mono ?_
  rintro e w2 ⟨g, rfl, hg, hG, hb⟩
  have HG := hide hG
  have T1 := hide (Q1.out.below hb)
  have T2 := hide (Q2.out.below hb)
  have T3 := hide (Q3.out.below hb)
  have L2 := hide (L1.out.trans (hb.mono (by omega)))
  have hz2 : w1.heap.size ≤ w2.heap.size := hb.size
  have hg2 : g < w2.heap.size := hG.1
  clear hb hG Q1 Q2 Q3 L1 a0 a1 a2 a3
  have hg3 : w.heap.size + 3 ≤ g := by omega
  have HK : MapK w x y c A A' n cap cap' w2.heap.size g xs ys 0 (w2.alloc (.cells #[.int .i64 x, .int .i64 y, .int .i64 c, .slice (some ⟨g, 0, none⟩) n n] 24)) :=
    ⟨T1.out.alloc _, T2.out.alloc _, T3.out.alloc _, Bx.at [.int .i64 x, .int .i64 y, .int .i64 c, .slice (some ⟨g, 0, none⟩) n n] _ rfl, by rw [mapped_zero]; exact HG.out.alloc _, L2.out.alloc (by omega) _⟩
  replace HK := hide HK
  clear HG T1 T2 T3 L2
  obtain ⟨m, hm⟩ : ∃ m, w2.heap.size = m := ⟨_, rfl⟩
  rw [hm] at HK hg2
  go_wp2_with fail
  go_loopw [30] (fun i wr => ∃ k : Nat, k ≤ n ∧ i = .int .i64 k ∧ MapK w x y c A A' n cap cap' m g xs ys k wr) (fun i _ => n - (intOf i).toNat)
  case atStart => exact ⟨0, Nat.zero_le _, rfl, HK.out⟩
  case round =>
    clear HK hm hz hz2
    obtain ⟨k, hk, rfl, hK⟩ := hrel
    obtain ⟨_, a0, a1, a2, a3, _, _, _, _⟩ := hK.1.four
    obtain ⟨_, b0, b1, b2, b3, _, _, _, _⟩ := hK.2.1.four
    obtain ⟨_, d0, d1, d2, d3, _, _, _, _⟩ := hK.2.2.2.1.four
    have HK := hide hK
    clear hK
    by_cases hlt : k < n
    · obtain ⟨p, o, rfl, _, hc1⟩ := (HB1.out _ HK.out.2.2.2.2.2).2.2.2.2 (by omega)
      obtain ⟨p', o', rfl, _, hc2⟩ := (HB2.out _ HK.out.2.2.2.2.2).2.2.2.2 (by omega)
      have e1 := hc1 k hlt
      have e2 := hc2 k hlt
      obtain ⟨m0, m1⟩ := HK.out.cell hlt
      have ia := HY1.out k
      have ib := HY2.out k
      clear hc1 hc2
      have HT := hide (fun t ht => HK.out.drew.put (t := t) hg3 hg2 hlt ht)
      obtain ⟨a, ha⟩ : ∃ a, xs.getD k 0 = a := ⟨_, rfl⟩
      obtain ⟨b, hb⟩ : ∃ b, ys.getD k 0 = b := ⟨_, rfl⟩
      rw [ha] at e1 ia HT
      rw [hb] at e2 ib HT
      clear ha hb
      have i0 : (0 : Int) ≤ (k : Int) := by omega
      have i1 : (k : Int) < (n : Int) := by omega
      have HAB := hide (fun w => apart_any a b ia ib w)
      clear ia ib
      obtain ⟨t, ht⟩ : ∃ t, absd a b = t := ⟨_, rfl⟩
      rw [ht] at HAB HT
      clear ht
      go_wp2_with fail
      refine wp_region_still_tail 15 (by kernel_rfl) (by kernel_rfl) ?_
      simp only [List.take_succ_cons, List.take_zero, List.drop_succ_cons, List.drop_zero]
      repeat (first
        | (refine wpStill_step (fun K hK => ?_); go_simp; refine hK _ ?_; clear hK K)
        | (refine wpStill_step (fun K hK => ?_); go_simp; refine ⟨_, (HAB.out _).mono fun _ _ h => ⟨h.1, h.2.symm⟩, hK _ ?_⟩; clear hK K))
      refine wpStill_nil ?_
      change wpList _ _ _ _ _ wr.drew
      go_wp2_with fail
      go_roundw
      case rel => exact ⟨k + 1, by omega, by go_num, HT.out _ rfl⟩
      case measure => simp [intOf]; omega
    · obtain rfl : k = n := by omega
      obtain ⟨_, z0, z1, z2, z3, f0, f1, f2, f3⟩ := HK.out.2.2.1.four
      have HF := hide HK.out.2.2.2.2.2
      have HG := hide HK.out.2.2.2.2.1
      go_wp2_with fail
      refine bodyPost_ret (v := .tuple #[.agg #[.int .i64 x, .int .i64 y, .int .i64 c, .slice (some ⟨g, 0, none⟩) k k], .int .i64 0]) (by simp [results, Try.results8, go_sem, z0, z1, z2, z3]) rfl ⟨g, rfl, by omega, ?_, ?_⟩
      · exact (((HG.out.other (by omega) _).other (by omega) _).other (by omega) _).other (by omega) _
      · exact below_set4 HF.out (by omega) _ _ _ _

end Go.Proofs.Ytbpnnjnkjbpmaaa
