/-
Bytes that come piece by piece: rows of bytes, and what is appended to bytes of one's own. No statement is proved here.
-/
import Derived.Test.YtnpjnegelhaaaaaHash2
import Derived.Test.YtnpjnegelhaaaaaByKit
import Derived.Deep.Matrix
namespace Go.Proofs.Ytnpjnegelhaaaaa
open Go.RowKit

theorem Bx.under {B g : Nat} {w w' : World} {l : List Value} (h : Bx w g l) (hb : Below B w w') (hg : g < B) : Bx w' g l :=
  ⟨Nat.lt_of_lt_of_le h.1 hb.size, fun i v hv => ⟨(hb.cell (p := ⟨g, i, none⟩) hg).trans (h.2 i v hv).1, (hb.frozen (p := ⟨g, i, none⟩) hg).trans (h.2 i v hv).2⟩⟩
theorem bytesV_app (xs ys : List Int) : bytesV (xs ++ ys) = bytesV xs ++ bytesV ys := by simp [bytesV]
/-- append(own, b...) -/
theorem append_more (w : World) (base : Nat) (v : Value) (m : Nat) (zs : List Int) (hown : w.ownsRow base 5 1 v m (bytesV zs)) (hbase : base ≤ w.heap.size) (A : Option Addr) (n cap : Nat) (xs : List Int) (h : BY w A n cap xs) (hs : m + n ≤ 100000000) (ty : TypeId) :
    ∃ v' w', (Builtin.append_ #[38, 38] ty #[v, .slice A n cap]).run Try.prog w = .ok v' w' ∧ w'.ownsRow base 5 1 v' (m + n) (bytesV (zs ++ xs)) ∧ Below base w w' := by
  obtain ⟨i0, hi, hz0, hz1, hz2⟩ := info_parts infoU8a
  cases A with
  | none =>
    have hn0 : n = 0 := by
      rcases Nat.eq_zero_or_pos n with q | q
      · exact q
      · obtain ⟨b, o, e, _⟩ := h.2.2.2.2 q; cases e
    subst hn0
    have hx : xs = [] := List.eq_nil_of_length_eq_zero h.1
    subst hx
    refine ⟨v, w, ?_, by simpa using hown, Below.refl _ _⟩
    rcases hown.2 with ⟨rfl, rfl⟩ | ⟨g, cp, cur, rfl, _, _, hnc, _⟩
    · simp [Builtin.append_, run_underlying Try.underlying38, sizeOf, typeInfo, hi, Builtin.lenOf, Builtin.firstCells]
    · simp [Builtin.append_, run_underlying Try.underlying38, sizeOf, typeInfo, hi, Builtin.lenOf, Builtin.firstCells, hnc, storeCells]
  | some ad =>
    have hc : ∀ j u, (bytesV xs)[j]? = some u → w.cell? (ad.add j) = some u := by
      intro j u hu
      have hl : j < n := by
        rcases Nat.lt_or_ge j n with q | q
        · exact q
        · rw [List.getElem?_eq_none (by simp [bytesV, h.1]; exact q)] at hu; cases hu
      obtain ⟨b, o, e, hlt, hcell⟩ := h.2.2.2.2 (by omega)
      cases e
      have e2 : (⟨b, o, none⟩ : Addr).add j = ⟨b, o + j, none⟩ := by unfold Addr.add; split <;> simp_all
      rw [e2, hcell j hl, ← hu]
      have hl' : j < xs.length := by rw [h.1]; exact hl
      simp [bytesV, List.getD_eq_getElem?_getD, hl']
    obtain ⟨v', w', hr, ho, hg, _⟩ := run_append_own (P := Try.prog) w base 38 ty 5 i0 (.int .u8 0) 1 1 Try.underlying38 hi hz0 hz1 hz2 rfl (by omega)
      v m (bytesV zs) hown ad n cap (bytesV xs) (by simp [bytesV, h.1]) hc (fun u hu => by simp only [bytesV, List.mem_map] at hu; obtain ⟨_, _, rfl⟩ := hu; rfl) (by unfold maxLen; omega) (by omega) hbase
    rw [← bytesV_app] at ho
    exact ⟨v', w', hr, ho, (Below.refl base w).grown hg hbase (fun k hk => (hown.lt k hk).1)⟩
theorem BY.ofOwn {w : World} {base m : Nat} {v : Value} {zs : List Int} (h : w.ownsRow base 5 1 v m (bytesV zs)) (hz : ∀ x ∈ zs, 0 ≤ x ∧ x ≤ 255) : ∃ A c, v = .slice A m c ∧ BY w A m c zs := by
  have hl : zs.length = m := by have := h.1; simp [bytesV] at this; exact this
  rcases h.2 with ⟨rfl, rfl⟩ | ⟨g, cp, cur, rfl, _, _, h1, h2, _⟩
  · have : zs = [] := List.eq_nil_of_length_eq_zero hl
    subst this
    exact ⟨none, 0, rfl, BY.nil _ _ _ (Nat.zero_le _)⟩
  · subst hl
    exact ⟨_, _, rfl, BY.ofBytes h1 h2 hz (Bx.ofOwn h)⟩

/-- a row of rows of bytes -/
structure Piece where
  A : Option Addr
  n : Nat
  cap : Nat
  xs : List Int
def BYS (w : World) (O : Option Addr) (n : Nat) (f : Nat → Piece) : Prop :=
  0 < n → ∃ b o, O = some ⟨b, o, none⟩ ∧ b < w.heap.size ∧ ∀ r, r < n → w.cell? ⟨b, o + r, none⟩ = some (.slice (f r).A (f r).n (f r).cap) ∧ BY w (f r).A (f r).n (f r).cap (f r).xs
theorem BYS.below {w w' : World} {O : Option Addr} {n : Nat} {f : Nat → Piece} (h : BYS w O n f) (hb : Below w.heap.size w w') : BYS w' O n f := by
  intro hn
  obtain ⟨b, o, e, hlt, hc⟩ := h hn
  exact ⟨b, o, e, Nat.lt_of_lt_of_le hlt hb.size, fun r hr => ⟨(hb.cell (p := ⟨b, o + r, none⟩) hlt).trans (hc r hr).1, (hc r hr).2.below hb⟩⟩
/-- the bytes of the first k pieces -/
def allOf (f : Nat → Piece) : Nat → List Int
  | 0 => []
  | k + 1 => allOf f k ++ (f k).xs
theorem allOf_byte {f : Nat → Piece} : ∀ k, (∀ r, r < k → ∀ x ∈ (f r).xs, 0 ≤ x ∧ x ≤ 255) → ∀ x ∈ allOf f k, 0 ≤ x ∧ x ≤ 255
  | 0, _, x, hx => by cases hx
  | k + 1, h, x, hx => by
    rcases List.mem_append.1 hx with q | q
    · exact allOf_byte k (fun r hr => h r (by omega)) x q
    · exact h k (by omega) x q
/-- the digest box -/
def boxS (D : Int) (m : Nat) : List Value := [.int .u64 (xor64 D 14695981039346656037), .int .i64 m]
theorem HSumD (g : Nat) (D : Int) (m : Nat) (w : World) (h : Bx w g (boxS D m)) (hD : isU64 D) :
    Calls Try.prog 48 #[.pointer (some ⟨g, 0, none⟩)] w fun e w' => e = .returned (.int .u64 D) ∧ w = w' := by
  have := HSum_any g _ _ w h (xor64_in hD fnv0_in)
  rwa [xor64_back hD.1] at this
def sumD (w : World) (g : Nat) (D : Int) (m : Nat) : World := (w.setCell ⟨g, 0, none⟩ (.int .u64 (xor64 D 14695981039346656037))).setCell ⟨g, 1, none⟩ (.int .i64 m)
theorem HWriteD (g : Nat) (D : Int) (m : Nat) (A : Option Addr) (n cap : Nat) (xs : List Int) (w : World) (hg : Bx w g (boxS D m)) (hD : isU64 D) (h : BY w A n cap xs) (hm : m + n ≤ 9223372036854775807) :
    Calls Try.prog 47 #[.pointer (some ⟨g, 0, none⟩), .slice A n cap] w fun e w' => e = .returned (.tuple #[]) ∧ w' = sumD w g (fnvK D xs n) (m + n) := by
  have := HWrite_any g _ _ A n cap xs w hg (xor64_in hD fnv0_in) h ⟨by omega, by omega⟩
  unfold sumW at this
  rw [xor64_back hD.1] at this
  unfold sumD
  rw [Int.natCast_add]
  exact this
theorem sumD_box {w : World} {g : Nat} {D D' : Int} {m m' : Nat} (h : Bx w g (boxS D m)) : Bx (sumD w g D' m') g (boxS D' m') := (h.set 0 (by simp [boxS]) _).set 1 (by simp [boxS]) _
theorem sumD_other {w : World} {g k : Nat} {D : Int} {m : Nat} {l : List Value} (h : Bx w k l) (hne : k ≠ g) : Bx (sumD w g D m) k l := (h.other hne _).other hne _
theorem sumD_below {B : Nat} {w0 w : World} {g : Nat} (h : Below B w0 w) (hg : B ≤ g) (D : Int) (m : Nat) : Below B w0 (sumD w g D m) := (h.setCell hg _).setCell hg _
theorem sumD_size (w : World) (g : Nat) (D : Int) (m : Nat) : (sumD w g D m).heap.size = w.heap.size := by simp [sumD]
theorem setCell_grownBy (w : World) (g i : Nat) (u : Value) : w.grownBy (w.setCell ⟨g, i, none⟩ u) (some g) :=
  ⟨rfl, rfl, rfl, by simp, fun k _ hk => Below.heap_setCell w ⟨g, i, none⟩ u k (fun e => hk (by rw [e]))⟩
theorem own_setCell {w : World} {base : Nat} {e : TypeId} {v : Value} {m : Nat} {zs : List Value} (h : w.ownsRow base e 1 v m zs) {g : Nat} (hg : g < base) (i : Nat) (u : Value) : (w.setCell ⟨g, i, none⟩ u).ownsRow base e 1 v m zs :=
  h.kept (setCell_grownBy w g i u) (.inr (fun q => by have := (h.lt g q).1; omega))
theorem sumD_own {w : World} {base : Nat} {e : TypeId} {v : Value} {m : Nat} {zs : List Value} (h : w.ownsRow base e 1 v m zs) {g : Nat} (hg : g < base) (D : Int) (k : Nat) : (sumD w g D k).ownsRow base e 1 v m zs :=
  own_setCell (own_setCell h hg _ _) hg _ _
theorem HNew_any (w : World) : Calls Try.prog 46 #[] w fun e w' => e = .returned (.pointer (some ⟨w.heap.size, 0, none⟩)) ∧ w' = w.alloc (.cells #[.int .u64 0, .int .i64 0] 62) := by
  go_enter Try.func46, Try.ntmps46
  go_wp2_with fail
  go_ret
  exact ⟨rfl, rfl⟩

end Go.Proofs.Ytnpjnegelhaaaaa
