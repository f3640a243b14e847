/-
Contract of package hash's digest of an image. No statement is proved here.
-/
import Derived.Test.YtnpjnegelhaaaaaHImg0
import Derived.Outline
namespace Go.Proofs.Ytnpjnegelhaaaaa
open Go.RowKit

theorem index3_0 (x y c : Int) (w : World) : (Instr.index 83 (.agg #[.int .i64 x, .int .i64 y, .int .i64 c]) (.int .i64 0)).run Try.prog w = .ok (.int .i64 x) w := by rfl
theorem index3_1 (x y c : Int) (w : World) : (Instr.index 83 (.agg #[.int .i64 x, .int .i64 y, .int .i64 c]) (.int .i64 1)).run Try.prog w = .ok (.int .i64 y) w := by rfl
theorem index3_2 (x y c : Int) (w : World) : (Instr.index 83 (.agg #[.int .i64 x, .int .i64 y, .int .i64 c]) (.int .i64 2)).run Try.prog w = .ok (.int .i64 c) w := by rfl
/-- what lies there while the three numbers come -/
def HIK (w : World) (x y c : Int) (A : Option Addr) (n cap : Nat) (D : Int) (m : Nat) (w' : World) : Prop :=
  Bx w' w.heap.size [.int .i64 x, .int .i64 y, .int .i64 c, .slice A n cap] ∧ Bx w' (w.heap.size + 1) (boxS D m) ∧ Below w.heap.size w w' ∧ w.heap.size + 2 ≤ w'.heap.size

/-- a number more: its four bytes -/
theorem HIK_more {w : World} {x y c : Int} {A : Option Addr} {n cap : Nat} {D : Int} {m : Nat} {w' : World} (h : HIK w x y c A n cap D m w') (hD : isU64 D) (z : Int) (hm : m ≤ 100) :
    Calls Try.prog 47 #[.pointer (some ⟨w.heap.size + 1, 0, none⟩), .slice (some ⟨w'.heap.size, 0, none⟩) 4 4] (w'.alloc (.cells #[.int .u8 (z % 256), .int .u8 (z / 256 % 256), .int .u8 (z / 65536 % 256), .int .u8 (z / 16777216 % 256)] 5)) fun e w2 => e = .returned (.tuple #[]) ∧ HIK w x y c A n cap (fnvK D (fourL z 4) 4) (m + 4) w2 := by
  obtain ⟨h1, h2, h3, h4⟩ := h
  have hB := by_bytes w' (fourL z 4) (fourL_byte z 4) (by rw [fourL_length]; omega) 5
  rw [fourL_length] at hB
  have e1 : (bytesV (fourL z 4)).toArray = #[Value.int .u8 (z % 256), .int .u8 (z / 256 % 256), .int .u8 (z / 65536 % 256), .int .u8 (z / 16777216 % 256)] := by rw [fourL_four]; rfl
  rw [e1] at hB
  refine (HWriteD (w.heap.size + 1) D m _ 4 4 (fourL z 4) _ (h2.alloc _) hD hB (by omega)).mono fun e w2 he => ⟨he.1, ?_⟩
  rw [he.2]
  exact ⟨sumD_other (h1.alloc _) (by omega), sumD_box (h2.alloc _), sumD_below (h3.alloc h3.size _) (by omega) _ _, by rw [sumD_size]; simp; omega⟩

set_option maxHeartbeats 4000000 in
set_option maxRecDepth 100000 in
theorem HImage_any (x y c : Int) (A : Option Addr) (n cap : Nat) (xs : List Int) (w : World) (h : BY w A n cap xs) (hn : n ≤ 20000) :
    Calls Try.prog 42 #[.agg #[.int .i64 x, .int .i64 y, .int .i64 c, .slice A n cap]] w (Says w (.int .u64 (fnvK 14695981039346656037 (((fourL x 4 ++ fourL y 4) ++ fourL c 4) ++ xs) (12 + n)))) := by
  have hdig : fnvK 14695981039346656037 (((fourL x 4 ++ fourL y 4) ++ fourL c 4) ++ xs) (12 + n) = fnvK (fnvK (fnvK (fnvK 14695981039346656037 (fourL x 4) 4) (fourL y 4) 4) (fourL c 4) 4) xs n := by
    have e1 := fnvK_app 14695981039346656037 ((fourL x 4 ++ fourL y 4) ++ fourL c 4) xs n
    have e2 := fnvK_app 14695981039346656037 (fourL x 4 ++ fourL y 4) (fourL c 4) 4
    have e3 := fnvK_app 14695981039346656037 (fourL x 4) (fourL y 4) 4
    simp only [List.length_append, fourL_length] at e1 e2 e3
    rw [show 12 + n = 4 + 4 + 4 + n by omega, e1, e2, e3]
  have u0 := fnv0_in
  have u1 := fnvK_in u0 (fourL x 4) 4
  have u2 := fnvK_in u1 (fourL y 4) 4
  have u3 := fnvK_in u2 (fourL c 4) 4
  have u4 := fnvK_in u3 xs n
  have M1 := hide (fun m w' (hk : HIK w x y c A n cap 14695981039346656037 m w') hm => HIK_more hk u0 x hm)
  have M2 := hide (fun m w' (hk : HIK w x y c A n cap (fnvK 14695981039346656037 (fourL x 4) 4) m w') hm => HIK_more hk u1 y hm)
  have M3 := hide (fun m w' (hk : HIK w x y c A n cap (fnvK (fnvK 14695981039346656037 (fourL x 4) 4) (fourL y 4) 4) m w') hm => HIK_more hk u2 c hm)
  have M4 := hide (fun w' (hk : HIK w x y c A n cap (fnvK (fnvK (fnvK 14695981039346656037 (fourL x 4) 4) (fourL y 4) 4) (fourL c 4) 4) 12 w') => HWriteD (w.heap.size + 1) _ 12 A n cap xs w' hk.2.1 u3 (h.below hk.2.2.1) (by omega))
  have M5 := hide (fun w' (hb : Bx w' (w.heap.size + 1) (boxS (fnvK (fnvK (fnvK (fnvK 14695981039346656037 (fourL x 4) 4) (fourL y 4) 4) (fourL c 4) 4) xs n) (12 + n))) => HSumD (w.heap.size + 1) _ _ w' hb u4)
  rw [hdig]
  generalize fnvK (fnvK (fnvK (fnvK 14695981039346656037 (fourL x 4) 4) (fourL y 4) 4) (fourL c 4) 4) xs n = D4 at *
  generalize fnvK (fnvK (fnvK 14695981039346656037 (fourL x 4) 4) (fourL y 4) 4) (fourL c 4) 4 = D3 at *
  generalize fnvK (fnvK 14695981039346656037 (fourL x 4) 4) (fourL y 4) 4 = D2 at *
  generalize fnvK 14695981039346656037 (fourL x 4) 4 = D1 at *
  have K0 : HIK w x y c A n cap 14695981039346656037 0 ((w.alloc (.cells #[.int .i64 x, .int .i64 y, .int .i64 c, .slice A n cap] 40)).alloc (.cells #[.int .u64 0, .int .i64 0] 62)) :=
    ⟨(Bx.at (w := w) (g := w.heap.size) [.int .i64 x, .int .i64 y, .int .i64 c, .slice A n cap] 40 rfl).alloc _, Bx.at (boxS 14695981039346656037 0) 62 (by simp), below_alloc2 w _ _, by simp⟩
  obtain ⟨D0, hD0⟩ : ∃ D0 : Int, (14695981039346656037 : Int) = D0 := ⟨_, rfl⟩
  rw [hD0] at K0 M1
  clear hD0 hdig u0 u1 u2 u3 u4 h
  obtain ⟨_, a0, a1, a2, a3, _, _, _, _⟩ := K0.1.four
  have HK0 := hide K0
  clear K0
  go_enter Try.func42, Try.ntmps42
  go_wp2_with fail
  go_loopw [5, 13] (fun _ i wr => (i = .int .i64 0 ∧ HIK w x y c A n cap D0 0 wr) ∨ (i = .int .i64 1 ∧ HIK w x y c A n cap D1 4 wr) ∨ (i = .int .i64 2 ∧ HIK w x y c A n cap D2 8 wr) ∨ (i = .int .i64 3 ∧ HIK w x y c A n cap D3 12 wr)) (fun _ i _ => 3 - (intOf i).toNat)
  case atStart => exact .inl ⟨rfl, HK0.out⟩
  case round =>
    clear HK0 a0 a1 a2 a3
    rcases hrel with ⟨rfl, hK⟩ | ⟨rfl, hK⟩ | ⟨rfl, hK⟩ | ⟨rfl, hK⟩
    · have C1 := hide (M1.out _ _ hK (by omega))
      have hi := index3_0 x y c wr
      clear hK
      go_wp2_with fail
      refine C1.out.mono ?_
      rintro e w2 ⟨rfl, hK2⟩
      have HK2 := hide hK2
      clear hK2
      go_wp2_with fail
      go_roundw
      case rel => exact .inr (.inl ⟨rfl, HK2.out⟩)
      case measure => simp [intOf]
    · have C1 := hide (M2.out _ _ hK (by omega))
      have hi := index3_1 x y c wr
      clear hK
      go_wp2_with fail
      refine C1.out.mono ?_
      rintro e w2 ⟨rfl, hK2⟩
      have HK2 := hide hK2
      clear hK2
      go_wp2_with fail
      go_roundw
      case rel => exact .inr (.inr (.inl ⟨rfl, HK2.out⟩))
      case measure => simp [intOf]
    · have C1 := hide (M3.out _ _ hK (by omega))
      have hi := index3_2 x y c wr
      clear hK
      go_wp2_with fail
      refine C1.out.mono ?_
      rintro e w2 ⟨rfl, hK2⟩
      have HK2 := hide hK2
      clear hK2
      go_wp2_with fail
      go_roundw
      case rel => exact .inr (.inr (.inr (⟨rfl, HK2.out⟩)))
      case measure => simp [intOf]
    · have C1 := hide (M4.out _ hK)
      have C2 := hide (M5.out _ (sumD_box (D' := D4) (m' := 12 + n) hK.2.1))
      have L := hide (sumD_below hK.2.2.1 (g := w.heap.size + 1) (by omega) D4 (12 + n))
      obtain ⟨_, _, _, _, a3, _, _, _, _⟩ := hK.1.four
      clear hK
      go_wp2_with fail
      refine C1.out.mono ?_
      rintro e w2 ⟨rfl, rfl⟩
      go_wp2_with fail
      refine C2.out.mono ?_
      rintro e w3 ⟨rfl, rfl⟩
      go_wp2_with fail
      go_ret
      exact ⟨rfl, L.out⟩

end Go.Proofs.Ytnpjnegelhaaaaa
