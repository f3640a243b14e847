/-
Contracts of package hash's Sum, and of digests of bytes: the package's and the reference's. No statement is proved here.
-/
import Derived.Test.YtnpjnegelhaaaaaRows
import Derived.Test.YtnpjnegelhaaaaaHash0
import Derived.Test.YtnpjnegelhaaaaaApp0
import Derived.IntWalk
import Derived.BigQuiet
import Derived.Deep.QuietTactic
namespace Go.Proofs.Ytnpjnegelhaaaaa
open Go.RowKit

theorem fnv0_in : isU64 14695981039346656037 := ⟨by decide, by decide⟩
theorem getD_u64 {xs : List Int} (h : ∀ x ∈ xs, 0 ≤ x ∧ x ≤ 255) (i : Nat) : 0 ≤ xs.getD i 0 ∧ xs.getD i 0 ≤ 255 := by
  rw [List.getD_eq_getElem?_getD]
  rcases Nat.lt_or_ge i xs.length with q | q
  · rw [List.getElem?_eq_getElem q]; exact h _ (List.getElem_mem q)
  · rw [List.getElem?_eq_none q]; exact ⟨by decide, by decide⟩
theorem isU64_byte {a : Int} (h : 0 ≤ a ∧ a ≤ 255) : isU64 a := ⟨h.1, by omega⟩
theorem fnvS_wrap (x v : Int) : IntKind.u64.wrap (xor64 x v * 1099511628211) = fnvS x v := IntKind.wrap_u64 _

theorem HSum_nil (w : World) : Calls Try.prog 48 #[.pointer none] w fun e w' => e = .returned (.int .u64 14695981039346656037) ∧ w = w' := by
  go_enter Try.func48, Try.ntmps48
  go_wp2_with fail
  go_ret
  exact ⟨rfl, rfl⟩
theorem HSum_any (g : Nat) (off n : Int) (w : World) (h : Bx w g [.int .u64 off, .int .i64 n]) (ho : isU64 off) :
    Calls Try.prog 48 #[.pointer (some ⟨g, 0, none⟩)] w fun e w' => e = .returned (.int .u64 (xor64 off 14695981039346656037)) ∧ w = w' := by
  obtain ⟨_, c0, _, _, _⟩ := h.two
  have hx := bits_xor64 ho fnv0_in
  go_enter Try.func48, Try.ntmps48
  go_wp2_with fail
  go_ret
  exact ⟨rfl, rfl⟩
theorem HLen_nil (w : World) : Calls Try.prog 49 #[.pointer none] w fun e w' => e = .returned (.int .i64 0) ∧ w = w' := by
  go_enter Try.func49, Try.ntmps49
  go_wp2_with fail
  go_ret
  exact ⟨rfl, rfl⟩
theorem HLen_any (g : Nat) (off n : Int) (w : World) (h : Bx w g [.int .u64 off, .int .i64 n]) :
    Calls Try.prog 49 #[.pointer (some ⟨g, 0, none⟩)] w fun e w' => e = .returned (.int .i64 n) ∧ w = w' := by
  obtain ⟨_, _, c1, _, _⟩ := h.two
  go_enter Try.func49, Try.ntmps49
  go_wp2_with fail
  go_ret
  exact ⟨rfl, rfl⟩

set_option maxHeartbeats 1000000 in
theorem RBytes_any (A : Option Addr) (n cap : Nat) (xs : List Int) (w : World) (h : BY w A n cap xs) :
    Calls Try.prog 41 #[.slice A n cap] w fun e w' => e = .returned (.int .u64 (fnvK 14695981039346656037 xs n)) ∧ w = w' := by
  have hm : n ≤ 9223372036854775807 := by have := h.2.1; have := h.2.2.1; unfold maxLen at this; omega
  have HY := hide (getD_u64 h.2.2.2.1)
  have HB := hide h
  have HI := hide (fnvK_in fnv0_in xs)
  clear h
  go_enter Try.func41, Try.ntmps41
  go_wp2_with fail
  go_loopw [3, 4] (fun x i wr => ∃ k : Nat, k ≤ n ∧ i = .int .i64 k ∧ x = .int .u64 (fnvK 14695981039346656037 xs k) ∧ w = wr) (fun _ i _ => n - (intOf i).toNat)
  case atStart => exact ⟨0, Nat.zero_le _, rfl, rfl, rfl⟩
  case round =>
    obtain ⟨k, hk, rfl, rfl, rfl⟩ := hrel
    have hxx := HI.out k
    have hs := hide (show fnvK 14695981039346656037 xs (k + 1) = fnvS (fnvK 14695981039346656037 xs k) (xs.getD k 0) from rfl)
    by_cases hlt : k < n
    · generalize fnvK 14695981039346656037 xs k = x at hxx hs ⊢
      obtain ⟨p, o, rfl, _, hc⟩ := HB.out.2.2.2.2 (by omega)
      have e1 := hc k hlt
      have hy := HY.out k
      generalize xs.getD k 0 = v at e1 hy hs
      have hb := bits_xor64 hxx (isU64_byte hy)
      have i1 : (k : Int) < (n : Int) := by omega
      clear hc
      go_wp2_with fail
      go_roundw
      case rel => exact ⟨k + 1, by omega, by go_num, by rw [hs.out, fnvS_wrap], trivial⟩
      case measure => simp [intOf]; omega
    · obtain rfl : k = n := by omega
      go_wp2_with fail
      go_ret
      exact ⟨rfl, rfl⟩

/-- what lies in the digest behind the bytes -/
def sumW (w : World) (g : Nat) (off m : Int) (n : Nat) (xs : List Int) : World :=
  (w.setCell ⟨g, 0, none⟩ (.int .u64 (xor64 (fnvK (xor64 off 14695981039346656037) xs n) 14695981039346656037))).setCell ⟨g, 1, none⟩ (.int .i64 (m + n))

set_option maxHeartbeats 1000000 in
theorem HWrite_nil (A : Option Addr) (n cap : Nat) (w : World) :
    Calls Try.prog 47 #[.pointer none, .slice A n cap] w fun e w' => e = .returned (.tuple #[]) ∧ w = w' := by
  go_enter Try.func47, Try.ntmps47
  go_wp2_with fail
  exact bodyPost_ret (v := .tuple #[]) (by simp [results, Try.results47]) rfl ⟨rfl, rfl⟩

set_option maxHeartbeats 1000000 in
theorem HWrite_any (g : Nat) (off m : Int) (A : Option Addr) (n cap : Nat) (xs : List Int) (w : World) (hg : Bx w g [.int .u64 off, .int .i64 m]) (ho : isU64 off) (h : BY w A n cap xs) (hm : 0 ≤ m ∧ m + n ≤ 9223372036854775807) :
    Calls Try.prog 47 #[.pointer (some ⟨g, 0, none⟩), .slice A n cap] w fun e w' => e = .returned (.tuple #[]) ∧ w' = sumW w g off m n xs := by
  have hx0 := xor64_in ho fnv0_in
  have S1 := hide (HSum_any g off m w hg ho)
  unfold sumW
  obtain ⟨x0, hxe⟩ : ∃ x, xor64 off 14695981039346656037 = x := ⟨_, rfl⟩
  rw [hxe] at hx0 S1 ⊢
  have HY := hide (getD_u64 h.2.2.2.1)
  have HB := hide h
  have HI := hide (fnvK_in hx0 xs)
  obtain ⟨_, c0, c1, f0, f1⟩ := hg.two
  clear h hxe hx0 ho hg
  go_enter Try.func47, Try.ntmps47
  go_wp2_with fail
  refine S1.out.mono ?_
  rintro e w1 ⟨rfl, rfl⟩
  go_wp2_with fail
  go_loopw [4, 13] (fun x i wr => ∃ k : Nat, k ≤ n ∧ i = .int .i64 k ∧ x = .int .u64 (fnvK x0 xs k) ∧ w = wr) (fun _ i _ => n - (intOf i).toNat)
  case atStart => exact ⟨0, Nat.zero_le _, rfl, rfl, rfl⟩
  case round =>
    obtain ⟨k, hk, rfl, rfl, rfl⟩ := hrel
    have hxx := HI.out k
    by_cases hlt : k < n
    · have hs := hide (show fnvK x0 xs (k + 1) = fnvS (fnvK x0 xs k) (xs.getD k 0) from rfl)
      generalize fnvK x0 xs k = x at hxx hs ⊢
      obtain ⟨p, o, rfl, _, hc⟩ := HB.out.2.2.2.2 (by omega)
      have e1 := hc k hlt
      have hy := HY.out k
      generalize xs.getD k 0 = v at e1 hy hs
      have hb := bits_xor64 hxx (isU64_byte hy)
      have i0 : (0 : Int) ≤ (k : Int) := by omega
      have i1 : (k : Int) < (n : Int) := by omega
      clear hc
      go_wp2_with fail
      go_roundw
      case rel => exact ⟨k + 1, by omega, by go_num, by rw [hs.out, fnvS_wrap], trivial⟩
      case measure => simp [intOf]; omega
    · obtain rfl : k = n := by omega
      have hb := bits_xor64 hxx fnv0_in
      have hw : IntKind.i64.wrap (m + k) = m + k := IntWalk.i64_in _ (by omega)
      go_wp2_with fail
      refine bodyPost_end (v := .tuple #[]) (by simp [results, Try.results47]) rfl ?_
      exact ⟨rfl, rfl⟩

end Go.Proofs.Ytnpjnegelhaaaaa
