/-
The law HashPieces: its walk. No statement is proved here.
-/
import Derived.Test.YtnpjnegelhaaaaaPieces0
import Derived.Outline
namespace Go.Proofs.Ytnpjnegelhaaaaa
open Go.RowKit

/-- what lies there behind k pieces: both boxes, and the bytes so far -/
def PK (w : World) (D : Int) (v : Value) (m : Nat) (zs : List Int) (w' : World) : Prop :=
  Bx w' w.heap.size (boxS D m) ∧ Bx w' (w.heap.size + 1) (boxS D m) ∧ w'.ownsRow (w.heap.size + 2) 5 1 v m (bytesV zs) ∧ Below w.heap.size w w' ∧ w.heap.size + 2 ≤ w'.heap.size

theorem BYS.cell {w : World} {O : Option Addr} {n k : Nat} {f : Nat → Piece} (h : BYS w O n f) (hk : k < n) : BY w (f k).A (f k).n (f k).cap (f k).xs := by
  obtain ⟨b, o, _, _, hc⟩ := h (by omega)
  exact (hc k hk).2
theorem fnv_more (f : Nat → Piece) (k : Nat) {n : Nat} (hl : (f k).xs.length = n) : fnvK 14695981039346656037 (allOf f (k + 1)) (allOf f (k + 1)).length = fnvK (fnvK 14695981039346656037 (allOf f k) (allOf f k).length) (f k).xs n := by
  rw [allOf, List.length_append, fnvK_app, hl]

set_option maxHeartbeats 4000000 in
set_option maxRecDepth 100000 in
theorem HashPieces_walk (O : Option Addr) (n cap : Nat) (f : Nat → Piece) (w : World) (h : BYS w O n f) :
    Calls Try.prog 10 #[.slice O n cap] w (Says w (.bool true)) := by
  have H0 := hide (Below.refl w.heap.size w)
  by_cases k0 : 60 < (n : Int)
  · go_enter Try.func10, Try.ntmps10
    go_wp2_with fail
    go_ret
    exact ⟨rfl, H0.out⟩
  · have hn : n ≤ 60 := by omega
    have N1 := hide (HNew_any w)
    have HR := hide (fun w' (hb : Below w.heap.size w w') => h.below hb)
    have HY := hide (fun (k : Nat) (hk : ∀ r, r < k → ∀ x ∈ (f r).xs, 0 ≤ x ∧ x ≤ 255) => allOf_byte k hk)
    have P0 : PK w 14695981039346656037 (.slice none 0 0) 0 [] ((w.alloc (.cells #[.int .u64 0, .int .i64 0] 62)).alloc (.cells #[.int .u64 0, .int .i64 0] 62)) :=
      ⟨(Bx.at (w := w) (boxS 14695981039346656037 0) 62 rfl).alloc _, Bx.at (boxS 14695981039346656037 0) 62 (by simp), World.ownsRow_nil _ _ _ _, below_alloc2 w _ _, by simp⟩
    have HP0 := hide P0
    clear P0 h
    go_enter Try.func10, Try.ntmps10
    go_wp2_with fail
    refine N1.out.mono ?_
    rintro e w1 ⟨rfl, rfl⟩
    go_wp2_with fail
    go_loopw [6, 17] (fun v i wr => ∃ k : Nat, k ≤ n ∧ i = .int .i64 k ∧ (∀ r, r < k → (f r).n ≤ 3000 ∧ (f r).xs.length = (f r).n ∧ ∀ x ∈ (f r).xs, 0 ≤ x ∧ x ≤ 255) ∧ (allOf f k).length ≤ 3000 * k ∧ PK w (fnvK 14695981039346656037 (allOf f k) (allOf f k).length) v (allOf f k).length (allOf f k) wr) (fun _ i _ => n - (intOf i).toNat)
    case atStart => exact ⟨0, Nat.zero_le _, rfl, fun r hr => absurd hr (Nat.not_lt_zero _), Nat.le_refl _, HP0.out⟩
    case round =>
      clear HP0 N1
      obtain ⟨k, hk, rfl, hsm, hlen, hP⟩ := hrel
      by_cases hlt : k < n
      · obtain ⟨b, o, rfl, _, hc⟩ := HR.out _ hP.2.2.2.1 (by omega)
        obtain ⟨e1, hy⟩ := hc k hlt
        have HQ := hide (fun w' (hb : Below w.heap.size w w') => (HR.out w' hb).cell hlt)
        have hfm := fnv_more f k hy.1
        have hal : allOf f (k + 1) = allOf f k ++ (f k).xs := rfl
        have hby := HY.out k (fun r hr => (hsm r hr).2.2)
        obtain ⟨⟨A', n', c', xs⟩, hq⟩ : ∃ q, f k = q := ⟨_, rfl⟩
        rw [hq] at e1 hy HQ hfm hal
        simp only at e1 hy HQ hfm hal
        have hs2 := hsm
        have i0 : (0 : Int) ≤ (k : Int) := by omega
        have i1 : (k : Int) < (n : Int) := by omega
        by_cases hbig : 3000 < (n' : Int)
        · have HL := hide hP.2.2.2.1
          obtain ⟨A0, c0, rfl, _⟩ := BY.ofOwn hP.2.2.1 hby
          clear hP hc hsm hs2
          go_wp2_with fail
          go_ret
          exact ⟨rfl, HL.out⟩
        · have hD := fnvK_in fnv0_in (allOf f k) (allOf f k).length
          generalize fnvK 14695981039346656037 (allOf f k) (allOf f k).length = D at hP hD hfm
          generalize allOf f k = zs at *
          obtain ⟨m, hm⟩ : ∃ m, zs.length = m := ⟨_, rfl⟩
          rw [hm] at hP hlen
          obtain ⟨p1, p2, p3, p4, p5⟩ := hP
          have hD' := fnvK_in hD xs n'
          have W1 := hide (HWriteD w.heap.size D m A' n' c' xs wr p1 hD (HQ.out _ p4) (by omega))
          obtain ⟨D', hDD⟩ : ∃ D', fnvK D xs n' = D' := ⟨_, rfl⟩
          rw [hDD] at W1 hfm hD'
          have r1 := sumD_below p4 (Nat.le_refl _) D' (m + n')
          have W2 := hide (HWriteD (w.heap.size + 1) D m A' n' c' xs _ (sumD_other (g := w.heap.size) (D := D') (m := m + n') p2 (by omega)) hD (HQ.out _ r1) (by omega))
          rw [hDD] at W2
          have r2 := sumD_below r1 (Nat.le_succ w.heap.size) D' (m + n')
          have b1 := sumD_other (g := w.heap.size + 1) (D := D') (m := m + n') (sumD_box (D' := D') (m' := m + n') p1) (by omega)
          have b2 := sumD_box (D' := D') (m' := m + n') (sumD_other (g := w.heap.size) (D := D') (m := m + n') p2 (by omega))
          have b3 := sumD_own (sumD_own p3 (g := w.heap.size) (by omega) D' (m + n')) (g := w.heap.size + 1) (by omega) D' (m + n')
          have b5 : w.heap.size + 2 ≤ (sumD (sumD wr w.heap.size D' (m + n')) (w.heap.size + 1) D' (m + n')).heap.size := by rw [sumD_size, sumD_size]; exact p5
          have W3 := hide (fun w => HWrite_nil A' n' c' w)
          obtain ⟨v', w3, hap, own3, bel3⟩ := append_more _ (w.heap.size + 2) _ m zs b3 b5 A' n' c' xs (HQ.out _ r2) (by omega) 38
          have hby' : ∀ x ∈ zs ++ xs, 0 ≤ x ∧ x ≤ 255 := fun x hx => by
            rcases List.mem_append.1 hx with q | q
            · exact hby x q
            · exact hy.2.2.2.1 x q
          obtain ⟨A2, c2, rfl, hy2⟩ := BY.ofOwn own3 hby'
          have d1 := b1.under bel3 (by omega)
          have d2 := b2.under bel3 (by omega)
          have d4 := r2.trans (bel3.mono (show w.heap.size ≤ w.heap.size + 2 by omega))
          have hlen2 : (zs ++ xs).length = m + n' := by rw [List.length_append, hm, hy.1]
          have R1 := hide (RBytes_any A2 (m + n') c2 (zs ++ xs) w3 hy2)
          have e3 : fnvK 14695981039346656037 (zs ++ xs) (m + n') = D' := by rw [← hlen2, ← hal]; exact hfm
          rw [e3] at R1
          have S1 := hide (HSumD w.heap.size D' (m + n') w3 d1 hD')
          have S2 := hide (HSumD (w.heap.size + 1) D' (m + n') w3 d2 hD')
          have N1 := hide (HLen_any w.heap.size _ _ w3 d1)
          have N2 := hide (HLen_any (w.heap.size + 1) _ _ w3 d2)
          have HP := hide (show PK w D' (.slice A2 (m + n') c2) (m + n') (zs ++ xs) w3 from ⟨d1, d2, own3, d4, by have := bel3.size; omega⟩)
          have hsm3 : ∀ r, r < k + 1 → (f r).n ≤ 3000 ∧ (f r).xs.length = (f r).n ∧ ∀ x ∈ (f r).xs, 0 ≤ x ∧ x ≤ 255 := fun r hr => by
            rcases Nat.lt_or_ge r k with q | q
            · exact hs2 r q
            · obtain rfl : r = k := by omega
              rw [hq]
              exact ⟨by simp only; omega, hy.1, hy.2.2.2.1⟩
          have hlen3 : m + n' ≤ 3000 * (k + 1) := by omega
          clear hc hsm hs2 p1 p2 p3 p4 p5 r1 r2 b1 b2 b3 b5 d1 d2 d4 own3 bel3 hy hy2 hby hby' hDD hD hD' e3
          go_wp2_with fail
          refine W1.out.mono ?_
          rintro e wa ⟨rfl, rfl⟩
          go_wp2_with fail
          refine W2.out.mono ?_
          rintro e wb ⟨rfl, rfl⟩
          go_wp2_with fail
          refine (W3.out _).mono ?_
          rintro e wc ⟨rfl, rfl⟩
          go_wp2_with (first | (at_builtin; refine wpList_append_run rfl _ _ _ rfl _ _ rfl rfl _ _ hap ?_) | fail)
          refine S1.out.mono ?_
          rintro e wd ⟨rfl, rfl⟩
          go_wp2_with fail
          refine R1.out.mono ?_
          rintro e we ⟨rfl, rfl⟩
          go_wp2_with fail
          refine N1.out.mono ?_
          rintro e wf ⟨rfl, rfl⟩
          go_wp2_with fail
          refine S2.out.mono ?_
          rintro e wg ⟨rfl, rfl⟩
          go_wp2_with fail
          refine S1.out.mono ?_
          rintro e wh ⟨rfl, rfl⟩
          go_wp2_with fail
          refine N2.out.mono ?_
          rintro e wi ⟨rfl, rfl⟩
          go_wp2_with fail
          go_roundw
          case rel =>
            refine ⟨k + 1, by omega, by go_num, hsm3, ?_, ?_⟩
            · rw [hal, hlen2]; exact hlen3
            · rw [hfm, hal, hlen2]; exact HP.out
          case measure => simp [intOf]; omega
      · obtain rfl : k = n := by omega
        have hby := HY.out k (fun r hr => (hsm r hr).2.2)
        have hD := fnvK_in fnv0_in (allOf f k) (allOf f k).length
        obtain ⟨p1, p2, p3, p4, p5⟩ := hP
        obtain ⟨A2, c2, rfl, hy2⟩ := BY.ofOwn p3 hby
        have B1 := hide (HBytes_any A2 _ c2 _ wr hy2)
        generalize fnvK 14695981039346656037 (allOf f k) (allOf f k).length = D at hD p1 B1
        have S1 := hide (HSumD w.heap.size D _ wr p1 hD)
        have Z1 := hide (fun w => HSum_nil w)
        have Z2 := hide (fun w => HBytes_any none 0 0 [] w (BY.nil _ _ _ (by unfold maxLen; omega)))
        rw [show fnvK 14695981039346656037 [] 0 = 14695981039346656037 from rfl] at Z2
        have Z3 := hide (fun w => HLen_nil w)
        have AL := hide alive12_any
        have HL := hide p4
        generalize (allOf f k).length = m at *
        clear hsm p1 p2 p3 p4 p5 hby hy2 hD
        go_wp2_with fail
        refine S1.out.mono ?_
        rintro e wa ⟨rfl, rfl⟩
        go_wp2_with fail
        refine B1.out.mono ?_
        rintro e wb ⟨rfl, hb⟩
        have L1 := hide (HL.out.trans (hb.mono HL.out.size))
        clear hb
        go_wp2_with fail
        refine (Z1.out _).mono ?_
        rintro e wc ⟨rfl, rfl⟩
        go_wp2_with fail
        refine (Z2.out _).mono ?_
        rintro e wd ⟨rfl, hb⟩
        have L2 := hide (L1.out.trans (hb.mono L1.out.size))
        clear hb
        go_wp2_with fail
        refine (Z3.out _).mono ?_
        rintro e we ⟨rfl, rfl⟩
        go_wp2_with fail
        refine (AL.out _).mono ?_
        rintro e wf ⟨rfl, hb⟩
        have L3 := hide (L2.out.trans (hb.mono L2.out.size))
        clear hb
        go_wp2_with fail
        go_ret
        exact ⟨rfl, L3.out⟩

end Go.Proofs.Ytnpjnegelhaaaaa
