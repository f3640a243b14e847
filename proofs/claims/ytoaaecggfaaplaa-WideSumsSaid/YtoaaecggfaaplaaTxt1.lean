/-
Contract of package wide: Text. No statement is proved here.
-/
import Derived.Test.YtoaaecggfaaplaaWid3
import Derived.Test.YtoaaecggfaaplaaTxt0
import Derived.Laws.BytesString
namespace Go.Proofs.Ytoaaecggfaaplaa
open Go.RowKit

def bv (l : List Nat) : List Value := l.map fun (d : Nat) => Value.int .u8 (d : Int)
/-- the array of 40 bytes: its last places hold L -/
def Buf (w : World) (g at_ : Nat) (L : List Nat) : Prop := ∃ cs : Array Value, w.heap[g]? = some (.cells cs 74 (0, 0)) ∧ cs.size = 40 ∧ cs.toList.drop at_ = bv L ∧ at_ ≤ 40
theorem Buf.lt {w : World} {g k : Nat} {L : List Nat} (h : Buf w g k L) : g < w.heap.size := by obtain ⟨cs, h1, _⟩ := h; exact heap_lt h1
theorem Buf.cell {w : World} {g k : Nat} {L : List Nat} (h : Buf w g k L) {j : Nat} (hj : j < 40) : ∃ v, w.cell? ⟨g, j, none⟩ = some v := by
  obtain ⟨cs, h1, h2, _⟩ := h
  rw [cell_of_row w g j _ _ (0, 0) h1]
  exact ⟨_, Array.getElem?_eq_getElem (by omega)⟩
theorem Buf.frozen {w : World} {g k : Nat} {L : List Nat} (h : Buf w g k L) (j : Nat) : w.frozen? ⟨g, j, none⟩ = false := by
  obtain ⟨cs, h1, _⟩ := h; simp [World.frozen?, h1]
theorem Buf.far {w : World} {g k : Nat} {L : List Nat} (h : Buf w g k L) {p : Addr} (hp : p.block ≠ g) (u : Value) : Buf (w.setCell p u) g k L := by
  obtain ⟨cs, h1, h2⟩ := h
  exact ⟨cs, (Below.heap_setCell w p u g (fun e => hp e.symm)).trans h1, h2⟩
theorem Buf.below {w w' : World} {g k : Nat} {L : List Nat} (h : Buf w g k L) {B : Nat} (hb : Below B w w') (hg : g < B) : Buf w' g k L := by
  obtain ⟨cs, h1, h2⟩ := h
  exact ⟨cs, (hb.block g hg).trans h1, h2⟩
theorem Buf.push {w : World} {g k : Nat} {L : List Nat} (h : Buf w g (k + 1) L) (d : Nat) : Buf (w.setCell ⟨g, k, none⟩ (.int .u8 (d : Int))) g k (d :: L) := by
  obtain ⟨cs, h1, h2, h3, h4⟩ := h
  refine ⟨cs.setIfInBounds k (.int .u8 (d : Int)), by simp [World.setCell, Array.getElem?_modify, h1], by simpa using h2, ?_, by omega⟩
  have hk : k < cs.toList.length := by simpa using (by omega : k < cs.size)
  rw [Array.toList_setIfInBounds]
  have e : (cs.toList.set k (.int .u8 (d : Int))).drop k = .int .u8 (d : Int) :: cs.toList.drop (k + 1) := by
    rw [List.drop_eq_getElem_cons (by simpa using hk), List.drop_set_of_lt (by omega)]
    simp
  rw [e, h3]; rfl
theorem Buf.push45 {w : World} {g k : Nat} {L : List Nat} (h : Buf w g (k + 1) L) : Buf (w.setCell ⟨g, k, none⟩ (.int .u8 45)) g k (45 :: L) := h.push 45
theorem Buf.reads {w : World} {g k : Nat} {L : List Nat} (h : Buf w g k L) : L.length = 40 - k ∧ ∀ j u, (bv L)[j]? = some u → w.cell? ⟨g, k + j, none⟩ = some u := by
  obtain ⟨cs, h1, h2, h3, h4⟩ := h
  have hl : L.length = 40 - k := by have := congrArg List.length h3; simp [bv] at this; omega
  refine ⟨hl, fun j u hu => ?_⟩
  rw [cell_of_row w g _ _ _ (0, 0) h1, ← hu, ← h3, List.getElem?_drop, Array.getElem?_toList]

/-- the text of letters -/
def strOf (L : List Nat) : ByteArray := ⟨(L.map UInt8.ofNat).toArray⟩
theorem fold_str : ∀ (L : List Nat) (s : ByteArray), (L.map (fun (d : Nat) => (d : Int))).foldl (fun r n => r.push (UInt8.ofNat n.toNat)) s = ⟨s.data ++ (L.map UInt8.ofNat).toArray⟩
  | [], s => by simp
  | d :: L, s => by
    rw [List.map_cons, List.foldl_cons, fold_str L]
    simp [ByteArray.push]
theorem loadCells_of {P : Program} {w : World} {a : Addr} {l : List Value} (h : ∀ j u, l[j]? = some u → w.cell? (a.add j) = some u) : (loadCells a l.length).run P w = .ok l.toArray w := run_loadCells_list (P := P) w a l h
theorem run_text {P : Program} {w : World} {g k : Nat} {L : List Nat} (h : Buf w g k L) (src dst e : TypeId) (hs : P.underlying src = some (.slice e)) (he : P.underlying e = some (.int .u8)) (hd : P.underlying dst = some .string) :
    (convert src dst (.slice (some ⟨g, k, none⟩) (40 - k) (40 - k))).run P w = .ok (.string (strOf L)) w := by
  obtain ⟨h1, h2⟩ := h.reads
  have hl := loadCells_of (P := P) (w := w) (a := ⟨g, k, none⟩) (l := bv L) (fun j u hu => by rw [show (⟨g, k, none⟩ : Addr).add j = ⟨g, k + j, none⟩ by unfold Addr.add; split <;> simp_all]; exact h2 j u hu)
  have e1 : (bv L).length = 40 - k := by simp [bv, h1]
  rw [e1] at hl
  have e2 : bv L = (L.map (fun (d : Nat) => (d : Int))).map (Value.int .u8) := by simp [bv]
  rw [e2] at hl
  rw [run_convert_bytes_string w src dst e _ _ _ hs he hd, run_bytesToString w _ _ _ _ hl, fold_str]
  simp [strOf]

theorem len40 : Try.prog.arrayLen 74 = 40 := by kernel_rfl
theorem run_cut40 (g k : Nat) (hk : k ≤ 39) (w : World) :
    (Instr.sliceAt 74 (.pointer (some ⟨g, 0, none⟩)) (some (.int .i64 (k : Int))) none none).run Try.prog w = .ok (.slice (some ⟨g, k, none⟩) (40 - k) (40 - k)) w := by
  have hs : (sizeOf (Try.prog.elem 74)).run Try.prog w = .ok 1 w := by kernel_rfl
  rw [run_sliceAt_array_l (P := Try.prog) w 74 ⟨g, 0, none⟩ Try.underlying74 .i64 (k : Int) (by omega) (by rw [len40]; omega), hs]
  simp only [Result.andThen, slicedAt, Int.toNat_natCast, len40, Nat.mul_one]
  have ea : (⟨g, 0, none⟩ : Addr).add k = ⟨g, k, none⟩ := by unfold Addr.add; split <;> simp_all
  rw [if_neg (by omega), ea]

/-- the loop's state -/
def TextRel (w : World) (u0 : Nat) (at_ : Value) (wr : World) : Prop :=
  ∃ (k u sh sl : Nat) (L : List Nat), (1 ≤ k ∧ k ≤ 40) ∧ at_ = .int .i64 (k : Int) ∧ TxState u0 (40 - k) u L ∧ Siz sh sl u ∧ wr.cell? ⟨w.heap.size, 0, none⟩ = some (.int .u64 sh) ∧ wr.cell? ⟨w.heap.size, 1, none⟩ = some (.int .u64 sl) ∧
    wr.frozen? ⟨w.heap.size, 0, none⟩ = false ∧ wr.frozen? ⟨w.heap.size, 1, none⟩ = false ∧ Buf wr (w.heap.size + 1) k L ∧ Below w.heap.size w wr
def zeros40 : Array Value := (List.replicate 40 (Value.int .u8 0)).toArray
theorem TextRel.start {w : World} {u sh sl : Nat} (h : Siz sh sl u) : TextRel w u (.int .i64 40) ((w.alloc (.cells #[.int .u64 sh, .int .u64 sl] 68)).alloc (.cells zeros40 74)) := by
  refine ⟨40, u, sh, sl, [], by omega, rfl, TxState.start u, h, by simp [go_sem], by simp [go_sem], by simp [go_sem], by simp [go_sem], ⟨zeros40, ?_, rfl, rfl, by omega⟩, below_alloc2 w _ _⟩
  have := heap_alloc_new (w.alloc (.cells #[.int .u64 sh, .int .u64 sl] 68)) (.cells zeros40 74)
  simpa using this

theorem TextRel.step {w wr w2 : World} {u0 m v h2 l2 d : Nat} {L : List Nat} {x0 x1 : Value} (hT : TxState u0 (40 - (m + 1)) v L) (hg : 40 - (m + 1) = 0 ∨ 0 < v) (hS : Siz h2 l2 (v / 10)) (hd : d = v % 10)
    (hB : Buf wr (w.heap.size + 1) (m + 1) L) (hb : Below w.heap.size w wr) (hb2 : Below wr.heap.size wr w2) (y0 : w2.cell? ⟨w.heap.size, 0, none⟩ = some x0) (y1 : w2.cell? ⟨w.heap.size, 1, none⟩ = some x1)
    (y2 : w2.frozen? ⟨w.heap.size, 0, none⟩ = false) (y3 : w2.frozen? ⟨w.heap.size, 1, none⟩ = false) (hm : 1 ≤ m ∧ m ≤ 39) :
    TextRel w u0 (.int .i64 (m : Int)) (((w2.setCell ⟨w.heap.size, 0, none⟩ (.int .u64 h2)).setCell ⟨w.heap.size, 1, none⟩ (.int .u64 l2)).setCell ⟨w.heap.size + 1, m, none⟩ (.int .u8 (48 + (d : Int)))) := by
  have hB2 : Buf w2 (w.heap.size + 1) (m + 1) L := hB.below hb2 hB.lt
  have hne : ∀ i, (⟨w.heap.size, i, none⟩ : Addr).block ≠ w.heap.size + 1 := fun i => by show w.heap.size ≠ _; omega
  have hB3 := ((hB2.far (hne 0) (.int .u64 h2)).far (hne 1) (.int .u64 l2)).push (48 + d)
  rw [show ((48 + d : Nat) : Int) = 48 + (d : Int) by omega] at hB3
  have e : 40 - m = 40 - (m + 1) + 1 := by omega
  have hT2 := hT.step hg
  rw [← e, ← hd] at hT2
  refine ⟨m, v / 10, h2, l2, (48 + d) :: L, by omega, rfl, hT2, hS, ?_, ?_, ?_, ?_, hB3, (((hb.trans (hb2.mono hb.size)).setCell (Nat.le_refl _) _).setCell (Nat.le_refl _) _).setCell (by show w.heap.size ≤ w.heap.size + 1; omega) _⟩
  · rw [World.cell?_setCell_other _ _ _ _ (fun e => by injection e with e; omega)]
    exact setCell_cell_ne _ (by decide) (setCell_cell _ y0)
  · rw [World.cell?_setCell_other _ _ _ _ (fun e => by injection e with e; omega)]
    exact setCell_cell _ (setCell_cell_ne _ (by decide) y1)
  · simpa [go_sem] using y2
  · simpa [go_sem] using y3

/-- the text of a size, behind its sign -/
def TextEnd (w : World) (L : List Nat) (e : Ending) (w' : World) : Prop := e = .returned (.string (strOf L)) ∧ Below w.heap.size w w'

theorem text_arg {w w1 wr : World} {hi : Int} {lo : Nat} (hb : Below (w.alloc (.cells #[.int .i64 hi, .int .u64 lo] 24)).heap.size (w.alloc (.cells #[.int .i64 hi, .int .u64 lo] 24)) w1) (hbl : Below w1.heap.size w1 wr) :
    wr.cell? ⟨w.heap.size, 0, none⟩ = some (.int .i64 hi) ∧ wr.cell? ⟨w.heap.size, 1, none⟩ = some (.int .u64 lo) := by
  obtain ⟨hc, _⟩ := bcell hb
  obtain ⟨hc2, _⟩ := bcell hbl
  have hz := hb.size
  simp at hz
  constructor
  · rw [hc2 _ _ (by omega), hc _ _ (by simp)]; simp [go_sem]
  · rw [hc2 _ _ (by omega), hc _ _ (by simp)]; simp [go_sem]

set_option maxHeartbeats 2000000 in
set_option maxRecDepth 100000 in
theorem Text_pos (hi : Int) (lo u : Nat) (h : Num hi lo u) (hu : u ≤ 170141183460469231731687303715884105728) (w : World) :
    Calls Try.prog 31 #[.agg #[.int .i64 hi, .int .u64 lo]] w (TextEnd w (dtx u [])) := by
  have hd : decide (hi < 0) = false := by rw [decide_eq_false_iff_not]; unfold Num at h; omega
  have HU := hide hu
  have H0 := hide (sizeOf_pos hi lo u h)
  have HW := hide (below_alloc w)
  clear h hu
  go_enter Try.func31, Try.ntmps31
  go_wp2_with fail
  refine (H0.out _).mono ?_
  rintro e w1 ⟨sh, sl, rfl, hS, hb⟩
  have Hst := hide (TextRel.start (w := w1) hS)
  obtain ⟨hc, hf⟩ := bcell hb
  have HC := hide (fun (wr : World) (hbl : Below w1.heap.size w1 wr) => text_arg hb hbl)
  have hz := hb.size
  simp at hz
  have HB := hide hb
  clear hb hS
  go_wp2_with fail
  go_loopw [5] (fun a wr => TextRel w1 u a wr) (fun a _ => (intOf a).toNat)
  case atStart => exact Hst.out
  case round =>
    clear Hst hc hf
    obtain ⟨k, v, sh, sl, L, hk, rfl, hT, hS, hc0, hc1, hf0, hf1, hBuf, hbl⟩ := hrel
    have HT := hide hT
    have HS := hide hS
    by_cases hg : (40 - k = 0 ∨ 0 < v)
    · have hroom := hT.room HU.out hg
      obtain ⟨m, rfl⟩ : ∃ m, k = m + 1 := ⟨k - 1, by omega⟩
      obtain ⟨x, hx⟩ := hBuf.cell (j := m) (by omega)
      have hxf := hBuf.frozen m
      have HBuf := hide hBuf
      have Hbl := hide hbl
      have hg2 := hBuf.lt
      have HG := hide hg
      clear hT hS hBuf hbl hg
      have hcase : m = 39 ∨ (m ≤ 38 ∧ 0 < sh) ∨ (m ≤ 38 ∧ sh = 0 ∧ 0 < sl) := by
        have h1 := HS.out; have h2 := HG.out; unfold Siz at h1; omega
      rcases hcase with h39 | ⟨h38, hsh⟩ | ⟨h38, rfl, hsl⟩
      · have hmb : ((m : Int) + 1 == 40) = true := by rw [beq_iff_eq]; omega
        have hm39 : 1 ≤ m ∧ m ≤ 39 := by omega
        clear h39
        go_wp2_with fail
        refine (tenth_any _ _ _ HS.out _).mono ?_
        rintro e w2 ⟨h2, l2, d, rfl, hS2, hd2, hb2⟩
        obtain ⟨hc, hf⟩ := bcell hb2
        have hw1z : w1.heap.size < wr.heap.size := by omega
        have y0 := (hc w1.heap.size 0 hw1z).trans hc0
        have y1 := (hc w1.heap.size 1 hw1z).trans hc1
        have y2 := (hf w1.heap.size 0 hw1z).trans hf0
        have y3 := (hf w1.heap.size 1 hw1z).trans hf1
        have y4 := (hc (w1.heap.size + 1) m hg2).trans hx
        have y5 := (hf (w1.heap.size + 1) m hg2).trans hxf
        have hd9 : d ≤ 9 := by omega
        have HR := hide (TextRel.step (w := w1) (v := v) (L := L) HT.out HG.out hS2 hd2 HBuf.out Hbl.out hb2 y0 y1 y2 y3 hm39)
        clear hc hf hS2 hd2 hb2
        go_wp2_with fail
        go_roundw
        case rel => exact HR.out
        case measure => simp [intOf]
      · have hmb : ((m : Int) + 1 == 40) = false := by rw [beq_eq_false_iff_ne]; omega
        have hm39 : 1 ≤ m ∧ m ≤ 39 := by omega
        go_wp2_with fail
        refine (tenth_any _ _ _ HS.out _).mono ?_
        rintro e w2 ⟨h2, l2, d, rfl, hS2, hd2, hb2⟩
        obtain ⟨hc, hf⟩ := bcell hb2
        have hw1z : w1.heap.size < wr.heap.size := by omega
        have y0 := (hc w1.heap.size 0 hw1z).trans hc0
        have y1 := (hc w1.heap.size 1 hw1z).trans hc1
        have y2 := (hf w1.heap.size 0 hw1z).trans hf0
        have y3 := (hf w1.heap.size 1 hw1z).trans hf1
        have y4 := (hc (w1.heap.size + 1) m hg2).trans hx
        have y5 := (hf (w1.heap.size + 1) m hg2).trans hxf
        have hd9 : d ≤ 9 := by omega
        have HR := hide (TextRel.step (w := w1) (v := v) (L := L) HT.out HG.out hS2 hd2 HBuf.out Hbl.out hb2 y0 y1 y2 y3 hm39)
        clear hc hf hS2 hd2 hb2
        go_wp2_with fail
        go_roundw
        case rel => exact HR.out
        case measure => simp [intOf]
      · have hmb : ((m : Int) + 1 == 40) = false := by rw [beq_eq_false_iff_ne]; omega
        have hm39 : 1 ≤ m ∧ m ≤ 39 := by omega
        go_wp2_with fail
        refine (tenth_any _ _ _ HS.out _).mono ?_
        rintro e w2 ⟨h2, l2, d, rfl, hS2, hd2, hb2⟩
        obtain ⟨hc, hf⟩ := bcell hb2
        have hw1z : w1.heap.size < wr.heap.size := by omega
        have y0 := (hc w1.heap.size 0 hw1z).trans hc0
        have y1 := (hc w1.heap.size 1 hw1z).trans hc1
        have y2 := (hf w1.heap.size 0 hw1z).trans hf0
        have y3 := (hf w1.heap.size 1 hw1z).trans hf1
        have y4 := (hc (w1.heap.size + 1) m hg2).trans hx
        have y5 := (hf (w1.heap.size + 1) m hg2).trans hxf
        have hd9 : d ≤ 9 := by omega
        have HR := hide (TextRel.step (w := w1) (v := v) (L := L) HT.out HG.out hS2 hd2 HBuf.out Hbl.out hb2 y0 y1 y2 y3 hm39)
        clear hc hf hS2 hd2 hb2
        go_wp2_with fail
        go_roundw
        case rel => exact HR.out
        case measure => simp [intOf]
    · have hv : v = 0 := by omega
      obtain ⟨rfl, rfl⟩ : sh = 0 ∧ sl = 0 := by have := HS.out; unfold Siz at this; omega
      have hkb : ((k : Int) == 40) = false := by rw [beq_eq_false_iff_ne]; omega
      obtain ⟨a0, a1⟩ := HC.out wr hbl
      have hcut := run_cut40 (w1.heap.size + 1) k (by omega)
      have HD := hide (hT.done ⟨by omega, hv⟩)
      have HBuf := hide hBuf
      have Hbl := hide hbl
      clear hT hS hBuf hbl hg hv
      go_wp2_with (go_at_call 35; refine (below_is hi lo _ hd _).mono ?_; rintro e w3 ⟨rfl, hb3⟩; have hrt := run_text (P := Try.prog) (HBuf.out.below hb3 HBuf.out.lt) 77 9 5 Try.underlying77 Try.underlying5 Try.underlying9; have HB3 := hide hb3; clear hb3)
      go_ret
      exact ⟨by rw [HD.out]; rfl, ((HW.out _).trans (HB.out.mono (by simp))).trans ((Hbl.out.trans (HB3.out.mono Hbl.out.size)).mono (by omega))⟩

set_option maxHeartbeats 2000000 in
set_option maxRecDepth 100000 in
theorem Text_neg (hi : Int) (lo u : Nat) (h : Num hi lo (-(u : Int))) (hu0 : 0 < u) (hu : u ≤ 170141183460469231731687303715884105728) (w : World) :
    Calls Try.prog 31 #[.agg #[.int .i64 hi, .int .u64 lo]] w (TextEnd w (45 :: dtx u [])) := by
  have hd : decide (hi < 0) = true := by rw [decide_eq_true_iff]; unfold Num at h; omega
  have HU := hide hu
  have H0 := hide (sizeOf_neg hi lo u h hu0)
  have HW := hide (below_alloc w)
  clear h hu hu0
  go_enter Try.func31, Try.ntmps31
  go_wp2_with fail
  refine (H0.out _).mono ?_
  rintro e w1 ⟨sh, sl, rfl, hS, hb⟩
  have Hst := hide (TextRel.start (w := w1) hS)
  obtain ⟨hc, hf⟩ := bcell hb
  have HC := hide (fun (wr : World) (hbl : Below w1.heap.size w1 wr) => text_arg hb hbl)
  have hz := hb.size
  simp at hz
  have HB := hide hb
  clear hb hS
  go_wp2_with fail
  go_loopw [5] (fun a wr => TextRel w1 u a wr) (fun a _ => (intOf a).toNat)
  case atStart => exact Hst.out
  case round =>
    clear Hst hc hf
    obtain ⟨k, v, sh, sl, L, hk, rfl, hT, hS, hc0, hc1, hf0, hf1, hBuf, hbl⟩ := hrel
    have HT := hide hT
    have HS := hide hS
    by_cases hg : (40 - k = 0 ∨ 0 < v)
    · have hroom := hT.room HU.out hg
      obtain ⟨m, rfl⟩ : ∃ m, k = m + 1 := ⟨k - 1, by omega⟩
      obtain ⟨x, hx⟩ := hBuf.cell (j := m) (by omega)
      have hxf := hBuf.frozen m
      have HBuf := hide hBuf
      have Hbl := hide hbl
      have hg2 := hBuf.lt
      have HG := hide hg
      clear hT hS hBuf hbl hg
      have hcase : m = 39 ∨ (m ≤ 38 ∧ 0 < sh) ∨ (m ≤ 38 ∧ sh = 0 ∧ 0 < sl) := by
        have h1 := HS.out; have h2 := HG.out; unfold Siz at h1; omega
      rcases hcase with h39 | ⟨h38, hsh⟩ | ⟨h38, rfl, hsl⟩
      · have hmb : ((m : Int) + 1 == 40) = true := by rw [beq_iff_eq]; omega
        have hm39 : 1 ≤ m ∧ m ≤ 39 := by omega
        clear h39
        go_wp2_with fail
        refine (tenth_any _ _ _ HS.out _).mono ?_
        rintro e w2 ⟨h2, l2, d, rfl, hS2, hd2, hb2⟩
        obtain ⟨hc, hf⟩ := bcell hb2
        have hw1z : w1.heap.size < wr.heap.size := by omega
        have y0 := (hc w1.heap.size 0 hw1z).trans hc0
        have y1 := (hc w1.heap.size 1 hw1z).trans hc1
        have y2 := (hf w1.heap.size 0 hw1z).trans hf0
        have y3 := (hf w1.heap.size 1 hw1z).trans hf1
        have y4 := (hc (w1.heap.size + 1) m hg2).trans hx
        have y5 := (hf (w1.heap.size + 1) m hg2).trans hxf
        have hd9 : d ≤ 9 := by omega
        have HR := hide (TextRel.step (w := w1) (v := v) (L := L) HT.out HG.out hS2 hd2 HBuf.out Hbl.out hb2 y0 y1 y2 y3 hm39)
        clear hc hf hS2 hd2 hb2
        go_wp2_with fail
        go_roundw
        case rel => exact HR.out
        case measure => simp [intOf]
      · have hmb : ((m : Int) + 1 == 40) = false := by rw [beq_eq_false_iff_ne]; omega
        have hm39 : 1 ≤ m ∧ m ≤ 39 := by omega
        go_wp2_with fail
        refine (tenth_any _ _ _ HS.out _).mono ?_
        rintro e w2 ⟨h2, l2, d, rfl, hS2, hd2, hb2⟩
        obtain ⟨hc, hf⟩ := bcell hb2
        have hw1z : w1.heap.size < wr.heap.size := by omega
        have y0 := (hc w1.heap.size 0 hw1z).trans hc0
        have y1 := (hc w1.heap.size 1 hw1z).trans hc1
        have y2 := (hf w1.heap.size 0 hw1z).trans hf0
        have y3 := (hf w1.heap.size 1 hw1z).trans hf1
        have y4 := (hc (w1.heap.size + 1) m hg2).trans hx
        have y5 := (hf (w1.heap.size + 1) m hg2).trans hxf
        have hd9 : d ≤ 9 := by omega
        have HR := hide (TextRel.step (w := w1) (v := v) (L := L) HT.out HG.out hS2 hd2 HBuf.out Hbl.out hb2 y0 y1 y2 y3 hm39)
        clear hc hf hS2 hd2 hb2
        go_wp2_with fail
        go_roundw
        case rel => exact HR.out
        case measure => simp [intOf]
      · have hmb : ((m : Int) + 1 == 40) = false := by rw [beq_eq_false_iff_ne]; omega
        have hm39 : 1 ≤ m ∧ m ≤ 39 := by omega
        go_wp2_with fail
        refine (tenth_any _ _ _ HS.out _).mono ?_
        rintro e w2 ⟨h2, l2, d, rfl, hS2, hd2, hb2⟩
        obtain ⟨hc, hf⟩ := bcell hb2
        have hw1z : w1.heap.size < wr.heap.size := by omega
        have y0 := (hc w1.heap.size 0 hw1z).trans hc0
        have y1 := (hc w1.heap.size 1 hw1z).trans hc1
        have y2 := (hf w1.heap.size 0 hw1z).trans hf0
        have y3 := (hf w1.heap.size 1 hw1z).trans hf1
        have y4 := (hc (w1.heap.size + 1) m hg2).trans hx
        have y5 := (hf (w1.heap.size + 1) m hg2).trans hxf
        have hd9 : d ≤ 9 := by omega
        have HR := hide (TextRel.step (w := w1) (v := v) (L := L) HT.out HG.out hS2 hd2 HBuf.out Hbl.out hb2 y0 y1 y2 y3 hm39)
        clear hc hf hS2 hd2 hb2
        go_wp2_with fail
        go_roundw
        case rel => exact HR.out
        case measure => simp [intOf]
    · have hv : v = 0 := by omega
      obtain ⟨rfl, rfl⟩ : sh = 0 ∧ sl = 0 := by have := HS.out; unfold Siz at this; omega
      have hkb : ((k : Int) == 40) = false := by rw [beq_eq_false_iff_ne]; omega
      obtain ⟨a0, a1⟩ := HC.out wr hbl
      obtain ⟨m, rfl⟩ : ∃ m, k = m + 1 := ⟨k - 1, by omega⟩
      have hkc : ((m : Int) + 1 == 40) = false := by rw [beq_eq_false_iff_ne]; omega
      have hcut := run_cut40 (w1.heap.size + 1) m (by omega)
      have HD := hide (hT.done ⟨by omega, hv⟩)
      have HBuf := hide hBuf
      have Hbl := hide hbl
      have hg2 := hBuf.lt
      clear hT hS hBuf hbl hg hv
      go_wp2_with (go_at_call 35; refine (below_is hi lo _ hd _).mono ?_; rintro e w3 ⟨rfl, hb3⟩; obtain ⟨y4, hy4⟩ := (HBuf.out.below hb3 HBuf.out.lt).cell (j := m) (by omega); have y5 := (HBuf.out.below hb3 HBuf.out.lt).frozen m; have hrt := run_text (P := Try.prog) (HBuf.out.below hb3 HBuf.out.lt).push45 77 9 5 Try.underlying77 Try.underlying5 Try.underlying9; have HB3 := hide hb3; clear hb3)
      go_ret
      exact ⟨by rw [HD.out]; rfl, (((HW.out _).trans (HB.out.mono (by simp))).trans ((Hbl.out.trans (HB3.out.mono Hbl.out.size)).mono (by omega))).setCell (by show w.heap.size ≤ w1.heap.size + 1; omega) _⟩

end Go.Proofs.Ytoaaecggfaaplaa
