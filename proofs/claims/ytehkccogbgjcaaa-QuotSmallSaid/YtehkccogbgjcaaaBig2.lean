/-
Contracts of the reference's digits: sum, rest. No statement is proved here.
-/
import Derived.Test.YtehkccogbgjcaaaBig1
namespace Go.Proofs.Ytehkccogbgjcaaa
open Go.RowKit

theorem infoInt : (Try.prog.info? 3).map (fun i => (i.zero, i.size, i.bytes)) = some (some (.int .i64 0), 1, 8) := by kernel_rfl

/-- a number without noughts at its end, of at most N digits, that reads so -/
def NW (w : World) (N : Nat) (A : Option Addr) (n c : Nat) (v : Nat) : Prop := ∃ l, DW w A n c l ∧ Dig l ∧ Norm l ∧ val l = v ∧ n ≤ N

theorem heap_lt {w : World} {g : Nat} {o : Obj} (h : w.heap[g]? = some o) : g < w.heap.size := by
  rcases Nat.lt_or_ge g w.heap.size with hlt | hge
  · exact hlt
  · rw [Array.getElem?_eq_none hge] at h; cases h
theorem IntBlk.below {w w' : World} {A : Option Addr} (h : IntBlk w A) (hb : Below w.heap.size w w') : IntBlk w' A := fun ad e => by
  obtain ⟨cur, fr, h1⟩ := h ad e
  exact ⟨cur, fr, by rw [hb.block _ (heap_lt h1)]; exact h1⟩
theorem DW.below {w w' : World} {A : Option Addr} {n c : Nat} {l : List Nat} (h : DW w A n c l) (hb : Below w.heap.size w w') : DW w' A n c l :=
  ⟨h.1, h.2.1, h.2.2.1, (h.2.2.2.1.below hb).more hb.size, h.2.2.2.2.below hb⟩
theorem Reads.setCell' {w : World} {B size : Nat} {A : Option Addr} {n : Nat} {xs : List Value} (h : Reads w B size A n xs) {p : Addr} (hp : ∀ ad, A = some ad → p.block ≠ ad.block) (u : Value) : Reads (w.setCell p u) B size A n xs := by
  refine ⟨h.1, fun hn => ?_⟩
  obtain ⟨ad, e, hb, hc⟩ := h.2 hn
  refine ⟨ad, e, hb, fun j v hv => ?_⟩
  rw [← hc j v hv]
  exact World.cell?_of_block (Below.heap_setCell w p u _ (by rw [block_of_add]; exact fun h2 => hp ad e h2.symm))
theorem IntBlk.ne_ {w : World} {A : Option Addr} (h : IntBlk w A) {g : Nat} {cs : Array Value} {t : TypeId} {fr : Nat × Nat} (hg : w.heap[g]? = some (.cells cs t fr)) (ht : t ≠ 3) : ∀ ad, A = some ad → g ≠ ad.block := fun ad e h2 => by
  obtain ⟨cur, fr', h1⟩ := h ad e
  rw [← h2, hg] at h1
  injection h1 with h1; injection h1 with _ h1; exact ht h1
theorem IntBlk.setCell {w : World} {A : Option Addr} (h : IntBlk w A) {p : Addr} (hp : ∀ ad, A = some ad → p.block ≠ ad.block) (u : Value) : IntBlk (w.setCell p u) A := fun ad e => by
  obtain ⟨cur, fr, h1⟩ := h ad e
  exact ⟨cur, fr, by rw [Below.heap_setCell w p u _ (fun h2 => hp ad e h2.symm)]; exact h1⟩
theorem DW.setCell {w : World} {A : Option Addr} {n c : Nat} {l : List Nat} (h : DW w A n c l) {p : Addr} (hp : ∀ ad, A = some ad → p.block ≠ ad.block) (u : Value) : DW (w.setCell p u) A n c l :=
  ⟨h.1, h.2.1, h.2.2.1, by have := h.2.2.2.1.setCell' hp u; simpa [World.setCell] using this, h.2.2.2.2.setCell hp u⟩
theorem NW.below {w w' : World} {N : Nat} {A : Option Addr} {n c v : Nat} (h : NW w N A n c v) (hb : Below w.heap.size w w') : NW w' N A n c v := by
  obtain ⟨l, h1, h2⟩ := h
  exact ⟨l, h1.below hb, h2⟩
theorem NW.more {w : World} {N M : Nat} {A : Option Addr} {n c v : Nat} (h : NW w N A n c v) (hM : N ≤ M) : NW w M A n c v := by
  obtain ⟨l, h1, h2, h3, h4, h5⟩ := h
  exact ⟨l, h1, h2, h3, h4, by omega⟩
theorem NW.tight {w : World} {N M : Nat} {A : Option Addr} {n c v : Nat} (h : NW w N A n c v) (hM : v < 32768 ^ M) : NW w M A n c v := by
  obtain ⟨l, h1, h2, h3, h4, h5⟩ := h
  exact ⟨l, h1, h2, h3, h4, by rw [← h1.1]; exact h3.len (by rw [h4]; exact hM)⟩

/-- what a call that makes a row of digits leaves -/
def Made (w : World) (N V : Nat) (e : Ending) (w' : World) : Prop := ∃ A n c, e = .returned (.slice A n c) ∧ NW w' N A n c V ∧ Below w.heap.size w w'

theorem dv_snoc (l : List Nat) (x : Nat) : dv (l ++ [x]) = dv l ++ [.int .i64 (x : Int)] := by simp [dv]
theorem DW.of_own {w : World} {base : Nat} {A : Option Addr} {n c : Nat} {l : List Nat} (h : w.ownsRow base 3 1 (.slice A n c) n (dv l)) : DW w A n c l := by
  refine ⟨by have := h.1; simpa [dv] using this, ?_, ?_, Reads.of_own h, ?_⟩
  rotate_left 2
  · rintro ad rfl
    rcases h.2 with ⟨e, rfl⟩ | ⟨g, cap, cur, e, _, h1, _⟩
    · cases e
    · injection e with e; injection e with e; subst e; exact ⟨_, _, h1⟩
  · rcases h.2 with ⟨e, rfl⟩ | ⟨g, cap, cur, e, _, _, h3, _⟩
    · exact Nat.zero_le _
    · injection e with _ _ e; subst e; exact h3
  · rcases h.2 with ⟨e, rfl⟩ | ⟨g, cap, cur, e, _, _, h3, h4, _⟩
    · injection e with _ _ e; subst e; exact Nat.zero_le _
    · injection e with _ _ e; subst e; exact h4
theorem own_slice {w : World} {base : Nat} {v : Value} {n : Nat} {xs : List Value} {t : TypeId} (h : w.ownsRow base t 1 v n xs) : ∃ A c, v = .slice A n c := by
  rcases h.2 with ⟨rfl, rfl⟩ | ⟨g, cap, cur, rfl, _⟩
  · exact ⟨_, _, rfl⟩
  · exact ⟨_, _, rfl⟩
theorem own_lt {w : World} {base : Nat} {v : Value} {n : Nat} {xs : List Value} {t : TypeId} (h : w.ownsRow base t 1 v n xs) : ∀ k, v.ownBlock = some k → base ≤ k := fun k hk => (h.lt k hk).1

theorem Reads.take {w : World} {B : Nat} {A : Option Addr} {n k : Nat} {xs : List Value} (h : Reads w B 1 A n xs) (hk : k ≤ n) : Reads w B 1 A k (xs.take k) := by
  refine ⟨by rw [List.length_take, h.1]; omega, fun h0 => ?_⟩
  obtain ⟨ad, e, hb, hc⟩ := h.2 (by omega)
  refine ⟨ad, e, hb, fun j u hu => hc j u ?_⟩
  rw [List.getElem?_take] at hu
  split at hu
  · exact hu
  · cases hu
theorem DW.take {w : World} {A : Option Addr} {n c k : Nat} {l : List Nat} (h : DW w A n c l) (hk : k ≤ n) : DW w A k c (l.take k) := by
  refine ⟨by rw [List.length_take, h.1]; omega, by have := h.2.1; omega, h.2.2.1, ?_, h.2.2.2.2⟩
  have := h.2.2.2.1.take hk
  unfold dv at this ⊢
  rw [← List.map_take] at this
  exact this
/-- behind a trim -/
theorem Made.of_trim {w w1 w2 : World} {A : Option Addr} {n c N v : Nat} {l : List Nat} {e : Ending} (ht : TrimPost w1 A c l e w2) (h : DW w1 A n c l) (hd : Dig l) (hv : val l = v) (hn : n ≤ N) (hb : Below w.heap.size w w1) : Made w N v e w2 := by
  obtain ⟨k, rfl, hk, hn2, hv2, rfl⟩ := ht
  exact ⟨A, k, c, rfl, ⟨_, h.take (by rw [← h.1]; exact hk), Dig_take hd _, hn2, by rw [hv2, hv], by rw [h.1] at hk; omega⟩, hb⟩

theorem sum_end {la lb o : List Nat} {k cr : Nat} (hl : o.length = k) (hv : val o + cr * 32768 ^ k = V (dgn la) k + V (dgn lb) k) (h1 : la.length ≤ k) (h2 : lb.length ≤ k) : val (o ++ [cr]) = val la + val lb := by
  rw [val_snoc, hl, hv, val_V h1, val_V h2]

def SumRel (w : World) (la lb : List Nat) (M : Nat) (v cr i : Value) (wr : World) : Prop :=
  ∃ (k c : Nat) (o : List Nat), k ≤ M ∧ i = .int .i64 k ∧ cr = .int .i64 c ∧ c ≤ 1 ∧ o.length = k ∧ Dig o ∧ val o + c * 32768 ^ k = V (dgn la) k + V (dgn lb) k ∧
    wr.ownsRow w.heap.size 3 1 v k (dv o) ∧ Below w.heap.size w wr

theorem SumRel.step {w wr w1 : World} {la lb o : List Nat} {M k cr : Nat} {v v' : Value} (u : Array Value) (hk : k + 1 ≤ M) (h1 : dgn la k < 32768) (h2 : dgn lb k < 32768) (hcr : cr ≤ 1) (hl : o.length = k) (hd : Dig o)
    (hv : val o + cr * 32768 ^ k = V (dgn la) k + V (dgn lb) k) (hown : wr.ownsRow w.heap.size 3 1 v k (dv o)) (hb : Below w.heap.size w wr)
    (hown' : w1.ownsRow w.heap.size 3 1 v' (k + 1) (dv o ++ [.int .i64 (((dg la k : Nat) + (dg lb k : Nat) + (cr : Nat) : Int) % 32768)]))
    (hg : (wr.alloc (.cells u 3)).grownBy w1 v.ownBlock) :
    SumRel w la lb M v' (.int .i64 (((dg la k : Nat) + (dg lb k : Nat) + (cr : Nat) : Int) / 32768)) (.int .i64 ((k : Int) + 1)) w1 := by
  rw [dg_nat, dg_nat] at *
  have e : (((dgn la k : Nat) + (dgn lb k : Nat) + (cr : Nat) : Int) % 32768) = (((dgn la k + dgn lb k + cr) % 32768 : Nat) : Int) := by omega
  have e2 : (((dgn la k : Nat) + (dgn lb k : Nat) + (cr : Nat) : Int) / 32768) = (((dgn la k + dgn lb k + cr) / 32768 : Nat) : Int) := by omega
  rw [e, ← dv_snoc] at hown'
  refine ⟨k + 1, (dgn la k + dgn lb k + cr) / 32768, _, hk, by go_num, by rw [e2], by omega, by rw [List.length_append, List.length_singleton, hl], Dig_snoc hd (by omega), sum_step hl hv, hown', ?_⟩
  exact (hb.alloc hb.size _).grown hg (by have := hb.size; simp; omega) (own_lt hown)

set_option maxHeartbeats 1000000 in
set_option maxRecDepth 100000 in
theorem sum_any (M : Nat) (hM : M ≤ 1000000) (A A' : Option Addr) (n n' c c' : Nat) (la lb : List Nat) (w : World) (hn : n ≤ M) (hn' : n' ≤ M) (ha : DW w A n c la) (hb : DW w A' n' c' lb) (da : Dig la) (db : Dig lb) :
    Calls Try.prog 81 #[.slice A n c, .slice A' n' c'] w (Made w (M + 1) (val la + val lb)) := by
  obtain ⟨i0, hi, hz0, hz1, hz2⟩ := info_parts infoInt
  have Ha := hide ha
  have Hb := hide hb
  have Da := hide da
  have Db := hide db
  clear ha hb da db
  rcases Nat.lt_or_ge n n' with hnn | hnn
  all_goals
    go_enter Try.func81, Try.ntmps81
    go_wp2
    go_loopw [5, 6, 7] (fun v cr i wr => SumRel w la lb M v cr i wr) (fun _ _ i _ => M - (intOf i).toNat)
    case atStart => exact ⟨0, 0, [], by omega, rfl, rfl, by omega, rfl, Dig_nil, by simp [V, val_nil], World.ownsRow_nil _ _ _ _, Below.refl _ _⟩
    case round =>
      obtain ⟨k, cr, o, hk, rfl, rfl, hcr, hl, hd, hv, hown, hbl⟩ := hrel
      have hA := Ha.out.below hbl
      have hB := Hb.out.below hbl
      have e1 := dg_nat la k
      have e2 := dg_nat lb k
      have x1 := Da.out k
      have x2 := Db.out k
      have Hl := Lib.hid hl
      have Hv := Lib.hid hv
      have Hd := hide hd
      clear hl hv hd
      by_cases hlt : (k < n ∨ k < n')
      · have h1 : dg la k ≤ 32767 := by omega
        have h2 : dg lb k ≤ 32767 := by omega
        first | (have hlt2 : k < n' := by omega) | (have hlt2 : k < n := by omega)
        clear e1 e2 x1 x2 hlt
        go_wp2_with (first
          | (go_at_call 76; refine (digit_any _ _ _ _ _ _ (by assumption)).mono ?_; rintro e w' ⟨rfl, rfl⟩)
          | (at_builtin; refine wpList_append_own _ rfl _ _ 22 rfl w.heap.size 3 i0 (.int .i64 0) 1 8 Try.underlying22 hi hz0 hz1 hz2 rfl (by decide) _ _ _ rfl (hown.alloc _) ⟨wr.heap.size, 0, none⟩ 1 1 [.int .i64 (((dg la k : Nat) + (dg lb k : Nat) + (cr : Nat) : Int) % 32768)] rfl rfl ?c1 ?c2 ?c3 ?c4 ?c5 ?_))
        case c1 =>
          intro j u hj
          match j, hj with
          | 0, hj => simp at hj; subst hj; simp [Addr.add]
        case c2 => intro u hu; simp at hu; subst hu; rfl
        case c3 => unfold maxLen; omega
        case c4 => omega
        case c5 => have := hbl.size; simp; omega
        · intro v' w1 hown' hgrow _
          have hr := hide (SumRel.step (M := M) _ (by omega) (Da.out k) (Db.out k) hcr Hl.out Hd.out Hv.out hown hbl hown' hgrow)
          clear hown' hgrow hown
          go_wp2
          go_roundw
          case rel => exact hr.out
          case measure => simp [intOf]; omega
      · clear e1 e2 x1 x2
        go_wp2_with (first
          | (at_builtin; refine wpList_append_own _ rfl _ _ 22 rfl w.heap.size 3 i0 (.int .i64 0) 1 8 Try.underlying22 hi hz0 hz1 hz2 rfl (by decide) _ _ _ rfl (hown.alloc _) ⟨wr.heap.size, 0, none⟩ 1 1 [.int .i64 (cr : Nat)] rfl rfl ?c1 ?c2 ?c3 ?c4 ?c5 ?_))
        case c1 =>
          intro j u hj
          match j, hj with
          | 0, hj => simp at hj; subst hj; simp [Addr.add]
        case c2 => intro u hu; simp at hu; subst hu; rfl
        case c3 => unfold maxLen; omega
        case c4 => omega
        case c5 => have := hbl.size; simp; omega
        · intro v' w1 hown' hgrow _
          have hbw1 := (hbl.alloc hbl.size _).grown hgrow (by have := hbl.size; simp; omega) (own_lt hown)
          rw [← dv_snoc] at hown'
          obtain ⟨A1, c1, rfl⟩ := own_slice hown'
          have hD := DW.of_own hown'
          clear hown' hgrow hown
          have hE := hide (sum_end (la := la) (lb := lb) Hl.out Hv.out (by rw [Ha.out.1]; omega) (by rw [Hb.out.1]; omega))
          have hD2 := hide (Dig_snoc (x := cr) Hd.out (by omega))
          go_wp2_with fail
          refine (trim_any _ _ _ _ _ hD).mono ?_
          intro e w2 ht
          have hm := hide (Made.of_trim ht hD hD2.out hE.out (show k + 1 ≤ M + 1 by omega) hbw1)
          obtain ⟨j, rfl, _, _, _, rfl⟩ := ht
          go_wp2
          go_ret
          exact hm.out
def RestRel (w : World) (la lb : List Nat) (n : Nat) (v br i : Value) (wr : World) : Prop :=
  ∃ (k b : Nat) (o : List Nat), k ≤ n ∧ i = .int .i64 k ∧ br = .int .i64 b ∧ b ≤ 1 ∧ o.length = k ∧ Dig o ∧ val o + V (dgn lb) k = V (dgn la) k + b * 32768 ^ k ∧
    wr.ownsRow w.heap.size 3 1 v k (dv o) ∧ Below w.heap.size w wr

theorem RestRel.step {w wr w1 : World} {la lb o : List Nat} {n k b d b2 : Nat} {v v' : Value} {x y : Int} (u : Array Value) (hk : k + 1 ≤ n) (hb2 : b2 ≤ 1) (hl : o.length = k) (hd : Dig o)
    (hv : val o + V (dgn lb) k = V (dgn la) k + b * 32768 ^ k) (hown : wr.ownsRow w.heap.size 3 1 v k (dv o)) (hb : Below w.heap.size w wr)
    (hx : x = (d : Int)) (hy : y = (b2 : Int)) (hdx : d < 32768) (he : d + dgn lb k + b = dgn la k + b2 * 32768)
    (hown' : w1.ownsRow w.heap.size 3 1 v' (k + 1) (dv o ++ [.int .i64 x]))
    (hg : (wr.alloc (.cells u 3)).grownBy w1 v.ownBlock) :
    RestRel w la lb n v' (.int .i64 y) (.int .i64 ((k : Int) + 1)) w1 := by
  subst hx hy
  rw [← dv_snoc] at hown'
  refine ⟨k + 1, b2, _, hk, by go_num, rfl, hb2, by rw [List.length_append, List.length_singleton, hl], Dig_snoc hd hdx, rest_step hl hv he, hown', ?_⟩
  exact (hb.alloc hb.size _).grown hg (by have := hb.size; simp; omega) (own_lt hown)

theorem rest_val {la lb o : List Nat} {n k b : Nat} (hk : k = n) (hb : b ≤ 1) (hl : o.length = k) (hd : Dig o) (hv : val o + V (dgn lb) k = V (dgn la) k + b * 32768 ^ k) (h1 : la.length = n) (hle : val lb ≤ val la) (hda : Dig la) (hnb : Norm lb) :
    val o = val la - val lb := by
  subst hk
  have hlb : lb.length ≤ k := hnb.len (by have := val_lt hda; rw [h1] at this; omega)
  rw [val_V hlb, val_V (Nat.le_of_eq h1)] at hv
  have ho := val_lt hd
  rw [hl] at ho
  exact rest_end hb ho hv hle

set_option maxHeartbeats 1000000 in
set_option maxRecDepth 100000 in
theorem rest_any (N : Nat) (hN : N ≤ 1000000) (A A' : Option Addr) (n n' c c' : Nat) (la lb : List Nat) (w : World) (hn : n ≤ N) (ha : DW w A n c la) (hb : DW w A' n' c' lb) (da : Dig la) (db : Dig lb) (hnb : Norm lb) (hle : val lb ≤ val la) :
    Calls Try.prog 79 #[.slice A n c, .slice A' n' c'] w (Made w N (val la - val lb)) := by
  obtain ⟨i0, hi, hz0, hz1, hz2⟩ := info_parts infoInt
  have Ha := hide ha
  have Hb := hide hb
  have Da := hide da
  have Db := hide db
  have Hle := hide hle
  have Hnb := hide hnb
  clear ha hb da db hle hnb
  go_enter Try.func79, Try.ntmps79
  go_wp2
  go_loopw [5, 6, 7] (fun v br i wr => RestRel w la lb n v br i wr) (fun _ _ i _ => n - (intOf i).toNat)
  case atStart => exact ⟨0, 0, [], by omega, rfl, rfl, by omega, rfl, Dig_nil, by simp [V, val_nil], World.ownsRow_nil _ _ _ _, Below.refl _ _⟩
  case round =>
    obtain ⟨k, b, o, hk, rfl, rfl, hbb, hl, hd, hv, hown, hbl⟩ := hrel
    have hA := Ha.out.below hbl
    have hB := Hb.out.below hbl
    have e1 := dg_nat la k
    have e2 := dg_nat lb k
    have x1 := Da.out k
    have x2 := Db.out k
    have h1 : dg la k ≤ 32767 := by omega
    have h2 : dg lb k ≤ 32767 := by omega
    have Hl := Lib.hid hl
    have Hv := Lib.hid hv
    have Hd := hide hd
    have He1 := Lib.hid e1
    have He2 := Lib.hid e2
    clear hl hv hd e1 e2 x1 x2
    by_cases hlt : k < n
    · by_cases hs : dg lb k + b ≤ dg la k
      · go_wp2_with (first
          | (go_at_call 76; refine (digit_any _ _ _ _ _ _ (by assumption)).mono ?_; rintro e w' ⟨rfl, rfl⟩)
          | (at_builtin; refine wpList_append_own _ rfl _ _ 22 rfl w.heap.size 3 i0 (.int .i64 0) 1 8 Try.underlying22 hi hz0 hz1 hz2 rfl (by decide) _ _ _ rfl (hown.alloc _) ⟨wr.heap.size, 0, none⟩ 1 1 [.int .i64 ((dg la k : Nat) - (dg lb k : Nat) - (b : Nat) : Int)] rfl rfl ?c1 ?c2 ?c3 ?c4 ?c5 ?_))
        case c1 =>
          intro j u hj
          match j, hj with
          | 0, hj => simp at hj; subst hj; simp [Addr.add]
        case c2 => intro u hu; simp at hu; subst hu; rfl
        case c3 => unfold maxLen; omega
        case c4 => omega
        case c5 => have := hbl.size; simp; omega
        · intro v' w1 hown' hgrow _
          have hr := hide (RestRel.step (n := n) (lb := lb) (la := la) (d := dgn la k - dgn lb k - b) (b2 := 0) (y := 0) _ (by omega) (by omega) Hl.out Hd.out Hv.out hown hbl (by rw [← He1.out, ← He2.out]; omega) rfl (by rw [← He1.out, ← He2.out]; omega) (by rw [← He1.out, ← He2.out]; omega) hown' hgrow)
          clear hown' hgrow hown
          go_wp2
          go_roundw
          case rel => exact hr.out
          case measure => simp [intOf]; omega
      · go_wp2_with (first
          | (go_at_call 76; refine (digit_any _ _ _ _ _ _ (by assumption)).mono ?_; rintro e w' ⟨rfl, rfl⟩)
          | (at_builtin; refine wpList_append_own _ rfl _ _ 22 rfl w.heap.size 3 i0 (.int .i64 0) 1 8 Try.underlying22 hi hz0 hz1 hz2 rfl (by decide) _ _ _ rfl (hown.alloc _) ⟨wr.heap.size, 0, none⟩ 1 1 [.int .i64 ((dg la k : Nat) - (dg lb k : Nat) - (b : Nat) + 32768 : Int)] rfl rfl ?d1 ?d2 ?d3 ?d4 ?d5 ?_))
        case d1 =>
          intro j u hj
          match j, hj with
          | 0, hj => simp at hj; subst hj; simp [Addr.add]
        case d2 => intro u hu; simp at hu; subst hu; rfl
        case d3 => unfold maxLen; omega
        case d4 => omega
        case d5 => have := hbl.size; simp; omega
        · intro v' w1 hown' hgrow _
          have hr := hide (RestRel.step (n := n) (lb := lb) (la := la) (d := dgn la k + 32768 - dgn lb k - b) (b2 := 1) (y := 1) _ (by omega) (by omega) Hl.out Hd.out Hv.out hown hbl (by rw [← He1.out, ← He2.out]; omega) rfl (by rw [← He1.out, ← He2.out]; omega) (by rw [← He1.out, ← He2.out]; omega) hown' hgrow)
          clear hown' hgrow hown
          go_wp2
          go_roundw
          case rel => exact hr.out
          case measure => simp [intOf]; omega
    · obtain ⟨A1, c1, rfl⟩ := own_slice hown
      have hD := DW.of_own hown
      have hE := hide (rest_val (la := la) (lb := lb) (n := n) (by omega) hbb Hl.out Hd.out Hv.out Ha.out.1 Hle.out Da.out Hnb.out)
      clear hown
      go_wp2_with fail
      refine (trim_any _ _ _ _ _ hD).mono ?_
      intro e w2 ht
      have hm := hide (Made.of_trim (N := N) ht hD Hd.out hE.out (by omega) hbl)
      obtain ⟨j, rfl, _, _, _, rfl⟩ := ht
      go_wp2
      go_ret
      exact hm.out

end Go.Proofs.Ytehkccogbgjcaaa
