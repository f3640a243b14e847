/-
Contracts of weight's Mix and Byte. No statement is proved here.
-/
import Derived.Test.YtehkccogbgjcaaaRows
import Derived.Test.YtehkccogbgjcaaaWei0
import Derived.Test.YtehkccogbgjcaaaQuo1
import Derived.Test.YtehkccogbgjcaaaInts
import Derived.Test.YtehkccogbgjcaaaImg0
import Derived.Test.YtehkccogbgjcaaaDiff0
import Derived.BigQuiet
import Derived.Deep.QuietTactic
namespace Go.Proofs.Ytehkccogbgjcaaa
open Go.RowKit

set_option maxHeartbeats 1000000 in
theorem WByte_any (s c : Int) (hs : isI64 s) (hc : isI64 c) (w : World) : Calls Try.prog 23 #[.int .i64 s, .int .i64 c] w fun e w' => e = .returned (.int .u8 (byteZ s c)) ∧ w = w' := by
  by_cases k : c < 1
  · rw [show byteZ s c = 0 from if_pos k]
    go_enter Try.func23, Try.ntmps23
    go_wp2_with fail
    go_ret
    exact ⟨rfl, rfl⟩
  · have H := hide (QNear_any s c w hs hc (by omega) (by omega))
    have hb := byteZ_in s c
    have hz : min (max (Int.fdiv (s + s + c) (c + c)) 0) 255 = byteZ s c := (if_neg k).symm
    generalize Int.fdiv (s + s + c) (c + c) = n at H hz
    generalize byteZ s c = z at hb hz ⊢
    have i1 := if_max n 0
    have i2 := if_min (max n 0) 255
    rw [hz] at i2
    have i3 : IntKind.u8.wrap z = z := IntWalk.u8_in _ (by omega)
    clear hs hc
    go_enter Try.func23, Try.ntmps23
    go_wp2_with fail
    refine H.out.mono ?_
    rintro e w1 ⟨rfl, rfl⟩
    go_wp2_with fail
    go_ret
    exact ⟨rfl, rfl⟩

set_option maxHeartbeats 2000000 in
theorem Mix_any (A : Option Addr) (n c : Nat) (ws : List Int) (B : Option Addr) (m d : Nat) (vs : List Int) (w : World) (h : IY w A n c ws) (h' : BY w B m d vs) :
    Calls Try.prog 24 #[.slice A n c, .slice B m d] w (Says w (.int .i64 (mixK ws vs (min n m)))) := by
  have z1 : n ≤ 9223372036854775807 := by have := h.2.1; have := h.2.2.1; unfold maxLen at this; omega
  have z2 : m ≤ 9223372036854775807 := by have := h'.2.1; have := h'.2.2.1; unfold maxLen at this; omega
  have HI := hide (fun w' (hb : Below w.heap.size w w') => h.below hb)
  have HY := hide (fun w' (hb : Below w.heap.size w w') => h'.below hb)
  have HV := hide (getD_byte h'.2.2.2.1)
  have HB := hide (Below.refl w.heap.size w)
  obtain ⟨q, hq⟩ : ∃ q, min n m = q := ⟨_, rfl⟩
  rw [hq]
  have q1 : q ≤ n := by omega
  have q2 : q ≤ m := by omega
  have i1 : (if (m : Int) < (n : Int) then (m : Int) else (n : Int)) = (q : Int) := by omega
  have i2 : min (n : Int) (m : Int) = (q : Int) := by omega
  clear hq h h'
  go_enter Try.func24, Try.ntmps24
  go_wp2_with fail
  go_loopw [5, 12] (fun s i wr => ∃ k : Nat, k ≤ q ∧ i = .int .i64 k ∧ s = .int .i64 (mixK ws vs k) ∧ Below w.heap.size w wr) (fun _ i _ => q - (intOf i).toNat)
  case atStart => exact ⟨0, Nat.zero_le _, rfl, rfl, HB.out⟩
  case round =>
    obtain ⟨k, hk, rfl, rfl, hK⟩ := hrel
    have HK := hide hK
    clear hK
    have hs := hide (show mixK ws vs (k + 1) = wrap64 (mixK ws vs k + wrap64 (ws.getD k 0 * vs.getD k 0)) from rfl)
    by_cases hlt : k < q
    · obtain ⟨b, o, rfl, _, hc⟩ := (HI.out _ HK.out).2.2.2.2 (by omega)
      obtain ⟨b', o', rfl, _, hc'⟩ := (HY.out _ HK.out).2.2.2.2 (by omega)
      have c1 := hc k (by omega)
      have c2 := hc' k (by omega)
      have hv := HV.out k
      unfold isByte at hv
      generalize mixK ws vs k = x at hs ⊢
      generalize ws.getD k 0 = u at c1 hs
      generalize vs.getD k 0 = v at c2 hs hv
      have j0 : (0 : Int) ≤ (k : Int) := by omega
      have j1 : (k : Int) < (n : Int) := by omega
      have j2 : (k : Int) < (m : Int) := by omega
      have j3 : IntKind.i64.wrap v = v := IntWalk.i64_in _ (by omega)
      clear hc hc' hv
      go_wp2_with fail
      refine wp_region_quiet_lit (by kernel_rfl) (by kernel_rfl) ?_
      iterate 13 go_big_quiet_step (fail)
      refine wpQuiet_nil ?_
      intro _ hw'
      obtain ⟨nq, hw''⟩ := hw'
      subst hw''
      have HJ := hide (bdrewN HK.out nq)
      go_wp2_with fail
      go_roundw
      case rel => exact ⟨k + 1, by omega, by go_num, by rw [hs.out], HJ.out⟩
      case measure => simp [intOf]; omega
    · obtain rfl : k = q := by omega
      go_wp2_with fail
      go_ret
      exact ⟨rfl, HK.out⟩
end Go.Proofs.Ytehkccogbgjcaaa
