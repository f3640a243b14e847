/-
Contracts of turns: what is wrong with one; one made; sizes; what may be asked for. No statement is proved here.
-/
import Derived.Test.YtgcnmffbhjlolabTur1
import Derived.Test.YtgcnmffbhjlolabRight
import Derived.StillTailTactics
namespace Go.Proofs.Ytgcnmffbhjlolab
open Go.RowKit

structure Tn where
  q : Int
  w : Int
  h : Int
def Tn.list (l : Tn) : List Int := [l.q, l.w, l.h]
def Tn.cells (l : Tn) : List Value := [.int .i64 l.q, .int .i64 l.w, .int .i64 l.h]
def Tn.ok (l : Tn) : Prop := (0 ≤ l.q ∧ l.q ≤ 7) ∧ (1 ≤ l.w ∧ l.w ≤ 32768) ∧ 1 ≤ l.h ∧ l.h ≤ 32768
/-- what is wrong with a turn -/
def turnC (xs : List Int) : Int := if xs.length ≠ 3 then 12 else if xs.getD 0 0 < 0 then 10 else if 7 < xs.getD 0 0 then 10 else if xs.getD 1 0 < 1 then 30 else if 32768 < xs.getD 1 0 then 30 else if xs.getD 2 0 < 1 then 30 else if 32768 < xs.getD 2 0 then 30 else 0
theorem turnC_three (q W H : Int) : turnC (Tn.list ⟨q, W, H⟩) = if q < 0 then 10 else if 7 < q then 10 else if W < 1 then 30 else if 32768 < W then 30 else if H < 1 then 30 else if 32768 < H then 30 else 0 := by
  rw [turnC, if_neg (by simp [Tn.list])]
  rfl
theorem three_turn {xs : List Int} (h : xs.length = 3) : ∃ l : Tn, xs = l.list := by
  match xs, h with
  | [a, b, c], _ => exact ⟨⟨a, b, c⟩, rfl⟩
theorem turnC_zero {xs : List Int} (h : turnC xs = 0) : ∃ l : Tn, xs = l.list ∧ l.ok := by
  by_cases h3 : xs.length = 3
  · obtain ⟨⟨q, W, H⟩, rfl⟩ := three_turn h3
    rw [turnC_three] at h
    refine ⟨⟨q, W, H⟩, rfl, ?_⟩
    unfold Tn.ok
    simp only []
    repeat' split at h
    all_goals omega
  · rw [turnC, if_pos h3] at h; omega
theorem IY.somewhere {w : World} {A : Option Addr} {n c : Nat} {xs : List Int} (h : IY w A n c xs) (hn : 0 < n) : ∃ b o, A = some ⟨b, o, none⟩ := by
  obtain ⟨b, o, e, _⟩ := h.2.2.2.2 hn
  exact ⟨b, o, e⟩

set_option maxHeartbeats 1000000 in
theorem TCheck_three (l : Tn) (b o c : Nat) (w : World) (h : IY w (some ⟨b, o, none⟩) 3 c l.list) :
    Calls Try.prog 27 #[.slice (some ⟨b, o, none⟩) 3 c] w fun e w' => e = .returned (.int .i64 (turnC l.list)) ∧ w = w' := by
  obtain ⟨b', o', e', _, hcell⟩ := h.2.2.2.2 (by omega)
  cases e'
  obtain ⟨q, W, H⟩ := l
  have c0 : w.cell? ⟨b, o, none⟩ = some (.int .i64 q) := hcell 0 (by omega)
  have c1 : w.cell? ⟨b, o + 1, none⟩ = some (.int .i64 W) := hcell 1 (by omega)
  have c2 : w.cell? ⟨b, o + 2, none⟩ = some (.int .i64 H) := hcell 2 (by omega)
  rw [turnC_three]
  clear hcell h
  by_cases k0 : q < 0
  · rw [if_pos k0]
    go_enter Try.func27, Try.ntmps27
    go_wp2_with fail
    go_ret
    exact ⟨rfl, rfl⟩
  · rw [if_neg k0]
    by_cases k1 : 7 < q
    · rw [if_pos k1]
      have k9 : 8 ≤ q := by omega
      go_enter Try.func27, Try.ntmps27
      go_wp2_with fail
      go_ret
      exact ⟨rfl, rfl⟩
    · rw [if_neg k1]
      by_cases k2 : W < 1
      · rw [if_pos k2]
        have k9 : ¬ 8 ≤ q := by omega
        go_enter Try.func27, Try.ntmps27
        go_wp2_with fail
        go_ret
        exact ⟨rfl, rfl⟩
      · rw [if_neg k2]
        by_cases k3 : 32768 < W
        · rw [if_pos k3]
          have k9 : ¬ 8 ≤ q := by omega
          go_enter Try.func27, Try.ntmps27
          go_wp2_with fail
          go_ret
          exact ⟨rfl, rfl⟩
        · rw [if_neg k3]
          by_cases k4 : H < 1
          · rw [if_pos k4]
            have k9 : ¬ 8 ≤ q := by omega
            go_enter Try.func27, Try.ntmps27
            go_wp2_with fail
            go_ret
            exact ⟨rfl, rfl⟩
          · rw [if_neg k4]
            by_cases k5 : 32768 < H
            · rw [if_pos k5]
              have k9 : ¬ 8 ≤ q := by omega
              go_enter Try.func27, Try.ntmps27
              go_wp2_with fail
              go_ret
              exact ⟨rfl, rfl⟩
            · rw [if_neg k5]
              have k9 : ¬ 8 ≤ q := by omega
              go_enter Try.func27, Try.ntmps27
              go_wp2_with fail
              go_ret
              exact ⟨rfl, rfl⟩
theorem TCheck_other (A : Option Addr) (n c : Nat) (xs : List Int) (w : World) (h : IY w A n c xs) (hn : n ≠ 3) :
    Calls Try.prog 27 #[.slice A n c] w fun e w' => e = .returned (.int .i64 (turnC xs)) ∧ w = w' := by
  have e : turnC xs = 12 := by rw [turnC, if_pos (by rw [h.1]; exact hn)]
  rw [e]
  have i1 : ((n : Int) == 3) = false := by simp; omega
  have i2 : ((n : Int) != 3) = true := by simp; omega
  clear h e hn
  go_enter Try.func27, Try.ntmps27
  go_wp2_with fail
  go_ret
  exact ⟨rfl, rfl⟩
theorem TCheck_any (A : Option Addr) (n c : Nat) (xs : List Int) (w : World) (h : IY w A n c xs) : Calls Try.prog 27 #[.slice A n c] w fun e w' => e = .returned (.int .i64 (turnC xs)) ∧ w = w' := by
  by_cases hn : n = 3
  · subst hn
    obtain ⟨b, o, rfl⟩ := h.somewhere (by omega)
    obtain ⟨l, rfl⟩ := three_turn h.1
    exact TCheck_three l b o c w h
  · exact TCheck_other A n c xs w h hn

set_option maxHeartbeats 1000000 in
theorem RTCheck_three (l : Tn) (b o c : Nat) (w : World) (h : IY w (some ⟨b, o, none⟩) 3 c l.list) :
    Calls Try.prog 26 #[.slice (some ⟨b, o, none⟩) 3 c] w fun e w' => e = .returned (.int .i64 (turnC l.list)) ∧ w = w' := by
  obtain ⟨b', o', e', _, hcell⟩ := h.2.2.2.2 (by omega)
  cases e'
  obtain ⟨q, W, H⟩ := l
  have c0 : w.cell? ⟨b, o, none⟩ = some (.int .i64 q) := hcell 0 (by omega)
  have c1 : w.cell? ⟨b, o + 1, none⟩ = some (.int .i64 W) := hcell 1 (by omega)
  have c2 : w.cell? ⟨b, o + 2, none⟩ = some (.int .i64 H) := hcell 2 (by omega)
  rw [turnC_three]
  clear hcell h
  by_cases k0 : q < 0
  · rw [if_pos k0]
    go_enter Try.func26, Try.ntmps26
    go_wp2_with fail
    go_ret
    exact ⟨rfl, rfl⟩
  · rw [if_neg k0]
    by_cases k1 : 7 < q
    · rw [if_pos k1]
      have k9 : 8 ≤ q := by omega
      go_enter Try.func26, Try.ntmps26
      go_wp2_with fail
      go_ret
      exact ⟨rfl, rfl⟩
    · rw [if_neg k1]
      by_cases k2 : W < 1
      · rw [if_pos k2]
        have k9 : ¬ 8 ≤ q := by omega
        go_enter Try.func26, Try.ntmps26
        go_wp2_with fail
        go_ret
        exact ⟨rfl, rfl⟩
      · rw [if_neg k2]
        by_cases k3 : 32768 < W
        · rw [if_pos k3]
          have k9 : ¬ 8 ≤ q := by omega
          go_enter Try.func26, Try.ntmps26
          go_wp2_with fail
          go_ret
          exact ⟨rfl, rfl⟩
        · rw [if_neg k3]
          by_cases k4 : H < 1
          · rw [if_pos k4]
            have k9 : ¬ 8 ≤ q := by omega
            go_enter Try.func26, Try.ntmps26
            go_wp2_with fail
            go_ret
            exact ⟨rfl, rfl⟩
          · rw [if_neg k4]
            by_cases k5 : 32768 < H
            · rw [if_pos k5]
              have k9 : ¬ 8 ≤ q := by omega
              go_enter Try.func26, Try.ntmps26
              go_wp2_with fail
              go_ret
              exact ⟨rfl, rfl⟩
            · rw [if_neg k5]
              have k9 : ¬ 8 ≤ q := by omega
              go_enter Try.func26, Try.ntmps26
              go_wp2_with fail
              go_ret
              exact ⟨rfl, rfl⟩
theorem RTCheck_other (A : Option Addr) (n c : Nat) (xs : List Int) (w : World) (h : IY w A n c xs) (hn : n ≠ 3) :
    Calls Try.prog 26 #[.slice A n c] w fun e w' => e = .returned (.int .i64 (turnC xs)) ∧ w = w' := by
  have e : turnC xs = 12 := by rw [turnC, if_pos (by rw [h.1]; exact hn)]
  rw [e]
  have i1 : ((n : Int) == 3) = false := by simp; omega
  have i2 : ((n : Int) != 3) = true := by simp; omega
  clear h e hn
  go_enter Try.func26, Try.ntmps26
  go_wp2_with fail
  go_ret
  exact ⟨rfl, rfl⟩
theorem RTCheck_any (A : Option Addr) (n c : Nat) (xs : List Int) (w : World) (h : IY w A n c xs) : Calls Try.prog 26 #[.slice A n c] w fun e w' => e = .returned (.int .i64 (turnC xs)) ∧ w = w' := by
  by_cases hn : n = 3
  · subst hn
    obtain ⟨b, o, rfl⟩ := h.somewhere (by omega)
    obtain ⟨l, rfl⟩ := three_turn h.1
    exact RTCheck_three l b o c w h
  · exact RTCheck_other A n c xs w h hn

/-- what New answers -/
def TNewQ (xs : List Int) (w : World) (e : Ending) (w' : World) : Prop :=
  Below w.heap.size w w' ∧ ((turnC xs = 0 ∧ ∃ l : Tn, ∃ g, xs = l.list ∧ l.ok ∧ e = .returned (.tuple #[.pointer (some ⟨g, 0, none⟩), .int .i64 0]) ∧ Bx w' g l.cells) ∨ (turnC xs ≠ 0 ∧ e = .returned (.tuple #[.pointer none, .int .i64 (turnC xs)])))
set_option maxRecDepth 100000 in
set_option maxHeartbeats 1000000 in
theorem TNew_any (A : Option Addr) (n c : Nat) (xs : List Int) (w : World) (h : IY w A n c xs) : Calls Try.prog 25 #[.slice A n c] w (TNewQ xs w) := by
  have HC := hide (TCheck_any A n c xs w h)
  by_cases h0 : turnC xs = 0
  · obtain ⟨l, rfl, hl⟩ := turnC_zero h0
    obtain rfl : 3 = n := h.1
    obtain ⟨b, o, rfl⟩ := h.somewhere (by omega)
    obtain ⟨b', o', e', _, hcell⟩ := h.2.2.2.2 (by omega)
    cases e'
    have c0 : w.cell? ⟨b, o, none⟩ = some (.int .i64 l.q) := hcell 0 (by omega)
    have c1 : w.cell? ⟨b, o + 1, none⟩ = some (.int .i64 l.w) := hcell 1 (by omega)
    have c2 : w.cell? ⟨b, o + 2, none⟩ = some (.int .i64 l.h) := hcell 2 (by omega)
    rw [h0] at HC
    have H0 := Lib.hid h0
    have HL := hide hl
    clear hcell h h0 hl
    go_enter Try.func25, Try.ntmps25
    go_wp2_with fail
    refine HC.out.mono ?_
    rintro e w1 ⟨rfl, rfl⟩
    go_wp2_with fail
    refine wp_region_still_tail 10 (by kernel_rfl) (by kernel_rfl) ?_
    simp only [List.take_succ_cons, List.take_zero, List.drop_succ_cons, List.drop_zero]
    repeat (refine wpStill_step (fun K hK => ?_); go_simp; refine hK _ ?_; clear hK K)
    refine wpStill_nil ?_
    change wpList _ _ _ _ _ w.drew
    have hd : Below w.heap.size w w.drew := (Below.refl _ _).drew
    clear c0 c1 c2
    generalize w.drew = wD at hd ⊢
    have HX : Hid (Bx (wD.alloc (.cells l.cells.toArray 104)) wD.heap.size l.cells) := Bx.new wD l.cells 104
    have HB := hide (hd.trans ((below_alloc wD (.cells l.cells.toArray 104)).mono hd.size))
    clear hd
    go_wp2_with fail
    refine bodyPost_ret (v := .tuple #[.pointer (some ⟨wD.heap.size, 0, none⟩), .int .i64 0]) (by simp [results, Try.results25, go_sem]) rfl ?_
    exact ⟨HB.out, .inl ⟨H0.out, l, _, rfl, HL.out, rfl, HX.out⟩⟩
  · have H0 := hide h0
    have hp : ∀ v, turnC xs = v → TNewQ xs w (.returned (.tuple #[.pointer none, .int .i64 v])) w := fun v hv => ⟨Below.refl _ _, .inr ⟨h0, by rw [hv]⟩⟩
    obtain ⟨v, hv⟩ : ∃ v, turnC xs = v := ⟨_, rfl⟩
    have HP := hide (hp v hv)
    rw [hv] at HC h0
    have h1 : (v != 0) = true := by simpa using h0
    clear hp hv H0 h h0
    go_enter Try.func25, Try.ntmps25
    go_wp2_with fail
    refine HC.out.mono ?_
    rintro e w1 ⟨rfl, rfl⟩
    go_wp2_with fail
    refine bodyPost_ret (v := .tuple #[.pointer none, .int .i64 v]) (by simp [results, Try.results25, go_sem]) rfl HP.out

/-- how large the turned image is -/
def sizeA (q w h : Int) : Int := if q = 1 ∨ q = 3 ∨ q = 5 ∨ q = 7 then h else w
def sizeB (q w h : Int) : Int := if q = 1 ∨ q = 3 ∨ q = 5 ∨ q = 7 then w else h
theorem size_any (q W H : Int) (w : World) (hq : 0 ≤ q ∧ q ≤ 7) : Calls Try.prog 60 #[.int .i64 q, .int .i64 W, .int .i64 H] w fun e w' => e = .returned (.tuple #[.int .i64 (sizeA q W H), .int .i64 (sizeB q W H)]) ∧ w = w' := by
  rcases turn_cases hq with rfl | rfl | rfl | rfl | rfl | rfl | rfl | rfl
  all_goals
    clear hq
    go_enter Try.func60, Try.ntmps60
    go_wp2_with fail
    refine bodyPost_ret (v := .tuple #[.int .i64 (sizeA _ W H), .int .i64 (sizeB _ W H)]) (by simp [results, Try.results60, go_sem, sizeA, sizeB]) rfl ⟨rfl, rfl⟩
theorem Size_nil (w : World) : Calls Try.prog 28 #[.pointer none] w (Says w (.tuple #[.int .i64 0, .int .i64 0])) := by
  have HB := hide (Below.refl w.heap.size w)
  go_enter Try.func28, Try.ntmps28
  go_wp2_with fail
  refine bodyPost_ret (v := .tuple #[.int .i64 0, .int .i64 0]) (by simp [results, Try.results28, go_sem]) rfl ⟨rfl, HB.out⟩
set_option maxHeartbeats 1000000 in
theorem Size_any (g : Nat) (l : Tn) (w : World) (h : Bx w g l.cells) (hl : l.ok) : Calls Try.prog 28 #[.pointer (some ⟨g, 0, none⟩)] w (Says w (.tuple #[.int .i64 (sizeA l.q l.w l.h), .int .i64 (sizeB l.q l.w l.h)])) := by
  have HS := hide (fun w n => Calls.quiet_of_same (w := w) (n := n) ((size_any l.q l.w l.h _ hl.1).mono fun _ _ k => ⟨k.1, k.2.symm⟩))
  have c0 := (h.2 0 _ rfl).1
  have c1 := (h.2 1 _ rfl).1
  have c2 := (h.2 2 _ rfl).1
  have HB := hide (Below.refl w.heap.size w)
  clear h hl
  go_enter Try.func28, Try.ntmps28
  go_wp2_with fail
  refine wp_region_quiet_lit (by kernel_rfl) (by kernel_rfl) ?_
  iterate 17 go_big_quiet_step ((go_at_call 60; exact HS.out _ _))
  refine wpQuiet_nil ?_
  intro _ hw'
  obtain ⟨nq, hw''⟩ := hw'
  subst hw''
  have HJ := hide (bdrewN HB.out nq)
  generalize w.drewN nq = wE at HJ ⊢
  go_wp2_with fail
  refine bodyPost_ret (v := .tuple #[.int .i64 (sizeA l.q l.w l.h), .int .i64 (sizeB l.q l.w l.h)]) (by simp [results, Try.results28, go_sem]) rfl ⟨rfl, HJ.out⟩
set_option maxHeartbeats 1000000 in
theorem RSize_any (l : Tn) (b o c : Nat) (w : World) (h : IY w (some ⟨b, o, none⟩) 3 c l.list) (hl : l.ok) : Calls Try.prog 29 #[.slice (some ⟨b, o, none⟩) 3 c] w (Says w (.tuple #[.int .i64 (sizeA l.q l.w l.h), .int .i64 (sizeB l.q l.w l.h)])) := by
  obtain ⟨b', o', e', _, hcell⟩ := h.2.2.2.2 (by omega)
  cases e'
  have c0 : w.cell? ⟨b, o, none⟩ = some (.int .i64 l.q) := hcell 0 (by omega)
  have c1 : w.cell? ⟨b, o + 1, none⟩ = some (.int .i64 l.w) := hcell 1 (by omega)
  have c2 : w.cell? ⟨b, o + 2, none⟩ = some (.int .i64 l.h) := hcell 2 (by omega)
  have HB := hide (Below.refl w.heap.size w)
  obtain ⟨q, W, H⟩ := l
  have hq : 0 ≤ q ∧ q ≤ 7 := hl.1
  simp only [] at c0 c1 c2
  clear hcell h hl
  show Calls _ _ _ w (Says w (.tuple #[.int .i64 (sizeA q W H), .int .i64 (sizeB q W H)]))
  rcases turn_cases hq with rfl | rfl | rfl | rfl | rfl | rfl | rfl | rfl
  all_goals
    clear hq
    go_enter Try.func29, Try.ntmps29
    go_wp2_with fail
    refine wp_region_quiet_lit (by kernel_rfl) (by kernel_rfl) ?_
    iterate 8 go_big_quiet_step (fail)
    refine wpQuiet_nil ?_
    intro _ hw'
    obtain ⟨nq, hw''⟩ := hw'
    subst hw''
    have HJ := hide (bdrewN HB.out nq)
    generalize w.drewN nq = wE at HJ ⊢
    go_wp2_with fail
    refine bodyPost_ret (v := .tuple #[.int .i64 (sizeA _ W H), .int .i64 (sizeB _ W H)]) (by simp [results, Try.results29, go_sem, sizeA, sizeB]) rfl ⟨rfl, HJ.out⟩

theorem Twithin_any (x : Int) (w : World) : Calls Try.prog 86 #[.int .i64 x] w fun e w' => e = .returned (.bool (decide (InZ x 1048576))) ∧ w = w' := by
  obtain ⟨g, hg⟩ : ∃ g, decide (InZ x 1048576) = g := ⟨_, rfl⟩
  rw [hg]
  by_cases a1 : -1048576 ≤ x
  · have hf : decide (x ≤ 1048576) = g := by rw [← hg]; exact decide_eq_decide.2 ⟨fun h => ⟨a1, h⟩, fun h => h.2⟩
    clear hg
    go_enter Try.func86, Try.ntmps86
    go_wp2_with fail
    go_ret
    exact ⟨rfl, rfl⟩
  · obtain rfl : false = g := by rw [← hg]; exact (decide_eq_false fun h => a1 h.1).symm
    clear hg
    go_enter Try.func86, Try.ntmps86
    go_wp2_with fail
    go_ret
    exact ⟨rfl, rfl⟩
theorem TRight_any (x y d : Int) (w : World) : Calls Try.prog 61 #[.int .i64 x, .int .i64 y, .int .i64 d] w fun e w' => e = .returned (.bool (decide (RightZ x y d))) ∧ w = w' := by
  have H1 := hide (Twithin_any x w)
  have H2 := hide (Twithin_any y w)
  rw [right_and]
  obtain ⟨b1, h1⟩ : ∃ b, decide (InZ x 1048576) = b := ⟨_, rfl⟩
  obtain ⟨b2, h2⟩ : ∃ b, decide (InZ y 1048576) = b := ⟨_, rfl⟩
  obtain ⟨b3, h3⟩ : ∃ b, decide (1 ≤ d) = b := ⟨_, rfl⟩
  obtain ⟨b4, h4⟩ : ∃ b, decide (d ≤ 16) = b := ⟨_, rfl⟩
  rw [h1] at H1 ⊢
  rw [h2] at H2 ⊢
  rw [h3, h4]
  clear h1 h2
  cases b1
  · go_enter Try.func61, Try.ntmps61
    go_wp2_with fail
    refine H1.out.mono ?_
    rintro e w1 ⟨rfl, rfl⟩
    go_wp2_with fail
    go_ret
    exact ⟨rfl, rfl⟩
  · cases b2
    · go_enter Try.func61, Try.ntmps61
      go_wp2_with fail
      refine H1.out.mono ?_
      rintro e w1 ⟨rfl, rfl⟩
      go_wp2_with fail
      refine H2.out.mono ?_
      rintro e w1 ⟨rfl, rfl⟩
      go_wp2_with fail
      go_ret
      exact ⟨rfl, rfl⟩
    · cases b3
      all_goals
        go_enter Try.func61, Try.ntmps61
        go_wp2_with fail
        refine H1.out.mono ?_
        rintro e w1 ⟨rfl, rfl⟩
        go_wp2_with fail
        refine H2.out.mono ?_
        rintro e w1 ⟨rfl, rfl⟩
        go_wp2_with fail
        go_ret
        exact ⟨rfl, rfl⟩

end Go.Proofs.Ytgcnmffbhjlolab
