/-
Contracts of package hash's Read, and of the reference's Read and Hex. No statement is proved here.
-/
import Derived.Test.YtnpjnegelhaaaaaHex0
import Derived.RegionTactic
namespace Go.Proofs.Ytnpjnegelhaaaaa
open Go.RowKit

/-- a text's bytes as numbers -/
def txI (s : ByteArray) : List Int := s.data.toList.map fun b => (b.toNat : Int)
theorem txI_length (s : ByteArray) : (txI s).length = s.size := by unfold txI; rw [List.length_map, Array.length_toList]; rfl
theorem txI_at (s : ByteArray) (k : Nat) (h : k < s.size) : (txI s).getD k 0 = ((s[k]'h).toNat : Int) := by
  have h' : k < s.data.size := h
  have e : s.data[k]? = some s.data[k] := Array.getElem?_eq_getElem h'
  simp [txI, List.getD_eq_getElem?_getD, e]
  rfl
theorem txI_byte (s : ByteArray) : ∀ x ∈ txI s, 0 ≤ x ∧ x ≤ 255 := by
  intro x hx
  simp only [txI, List.mem_map] at hx
  obtain ⟨b, _, rfl⟩ := hx
  have := b.toNat_lt
  omega

set_option maxHeartbeats 1000000 in
theorem digit_any (b : Int) (hb : 0 ≤ b ∧ b ≤ 255) (w : World) : Calls Try.prog 67 #[.int .u8 b] w fun e w' => e = .returned (.tuple #[.int .u64 (digN b), .bool (digB b)]) ∧ w = w' := by
  by_cases h1 : 48 ≤ b ∧ b ≤ 57
  · have e1 : digN b = b - 48 := by unfold digN; rw [if_pos h1]
    have e2 : digB b = true := by unfold digB; rw [decide_eq_true (.inl h1)]
    rw [e1, e2]
    obtain ⟨h1, h2⟩ := h1
    clear e1 e2
    go_enter Try.func67, Try.ntmps67
    go_wp2_with fail
    refine bodyPost_ret (v := .tuple #[.int .u64 (b - 48), .bool true]) (by simp [results, Try.results67, go_sem]) rfl ?_
    exact ⟨rfl, rfl⟩
  · by_cases h2 : 97 ≤ b ∧ b ≤ 102
    · have e1 : digN b = b - 87 := by unfold digN; rw [if_neg h1, if_pos h2]
      have e2 : digB b = true := by unfold digB; rw [decide_eq_true (.inr h2)]
      rw [e1, e2]
      obtain ⟨h2, h3⟩ := h2
      have h4 : ¬ b ≤ 57 := by omega
      have h5 : 48 ≤ b := by omega
      clear e1 e2 h1
      go_enter Try.func67, Try.ntmps67
      go_wp2_with fail
      refine bodyPost_ret (v := .tuple #[.int .u64 (b - 87), .bool true]) (by simp [results, Try.results67, go_sem]; omega) rfl ?_
      exact ⟨rfl, rfl⟩
    · have e1 : digN b = 0 := by unfold digN; rw [if_neg h1, if_neg h2]
      have e2 : digB b = false := by unfold digB; rw [decide_eq_false (fun q => q.elim h1 h2)]
      rw [e1, e2]
      clear e1 e2
      by_cases h3 : 48 ≤ b
      · have h4 : ¬ b ≤ 57 := by omega
        by_cases h5 : 97 ≤ b
        · have h6 : ¬ b ≤ 102 := by omega
          clear h1 h2
          go_enter Try.func67, Try.ntmps67
          go_wp2_with fail
          refine bodyPost_ret (v := .tuple #[.int .u64 (0), .bool false]) (by simp [results, Try.results67, go_sem]) rfl ?_
          exact ⟨rfl, rfl⟩
        · clear h1 h2
          go_enter Try.func67, Try.ntmps67
          go_wp2_with fail
          refine bodyPost_ret (v := .tuple #[.int .u64 (0), .bool false]) (by simp [results, Try.results67, go_sem]) rfl ?_
          exact ⟨rfl, rfl⟩
      · have h5 : ¬ 97 ≤ b := by omega
        clear h1 h2
        go_enter Try.func67, Try.ntmps67
        go_wp2_with fail
        refine bodyPost_ret (v := .tuple #[.int .u64 (0), .bool false]) (by simp [results, Try.results67, go_sem]) rfl ?_
        exact ⟨rfl, rfl⟩

theorem shl4_or {x d : Int} (hx : isU64 x) (hd : 0 ≤ d ∧ d < 16) : bits .or .u64 (x * 16 % 18446744073709551616) d = (x * 16 + d) % 18446744073709551616 := by
  obtain ⟨x1, x2⟩ := hx
  obtain ⟨d1, d2⟩ := hd
  rw [u64_or _ _ (by omega) (by omega) d1 (by omega)]
  have e := nat_join 4 (x * 16 % 18446744073709551616).toNat d.toNat (by omega) (by omega)
  rw [e]
  omega

set_option maxHeartbeats 1000000 in
theorem HRead_any (s : ByteArray) (w : World) :
    Calls Try.prog 37 #[.string s] w fun e w' => e = .returned (.tuple #[.int .u64 (readX (txI s)), .bool (readB (txI s))]) ∧ w = w' := by
  by_cases hl : s.size = 16
  · have hl' := txI_length s
    obtain ⟨X, hX⟩ : ∃ X, readX (txI s) = X := ⟨_, rfl⟩
    obtain ⟨B, hB⟩ : ∃ B, readB (txI s) = B := ⟨_, rfl⟩
    have HX := hide hX
    have HB := hide hB
    rw [hX, hB]
    clear hX hB
    go_enter Try.func37, Try.ntmps37
    go_wp2_with fail
    go_loopw [4, 13] (fun x i wr => ∃ k : Nat, k ≤ 16 ∧ i = .int .i64 k ∧ x = .int .u64 (rdX (txI s) k) ∧ rdB (txI s) k = true ∧ w = wr) (fun _ i _ => 16 - (intOf i).toNat)
    case atStart => exact ⟨0, Nat.zero_le _, rfl, rfl, rfl, rfl⟩
    case round =>
      obtain ⟨k, hk, rfl, rfl, hrb, rfl⟩ := hrel
      have hxx := rdX_in (txI s) k
      by_cases hlt : k < 16
      · have hks : k < s.size := by omega
        have hv := txI_at s k hks
        have D1 := hide (fun w => digit_any ((s[k]'hks).toNat : Int) (by have := (s[k]'hks).toNat_lt; omega) w)
        have hs1 := hide (show rdX (txI s) (k + 1) = (rdX (txI s) k * 16 + digN ((txI s).getD k 0)) % 18446744073709551616 from rfl)
        have hs2 := hide (show rdB (txI s) (k + 1) = (rdB (txI s) k && digB ((txI s).getD k 0)) from rfl)
        rw [hv, hrb, Bool.true_and] at hs2
        rw [hv] at hs1
        generalize rdX (txI s) k = x at hxx hs1 ⊢
        have hd := digN_in ((s[k]'hks).toNat : Int)
        by_cases hdb : digB ((s[k]'hks).toNat : Int) = true
        · rw [hdb] at D1 hs2
          generalize digN ((s[k]'hks).toNat : Int) = d at D1 hd hs1
          have ho := shl4_or hxx hd
          have hw : IntKind.u64.wrap (x * 16) = x * 16 % 18446744073709551616 := IntKind.wrap_u64 _
          go_wp2_with fail
          refine (D1.out _).mono ?_
          rintro e w1 ⟨rfl, rfl⟩
          go_wp2_with fail
          go_roundw
          case rel => exact ⟨k + 1, by omega, by go_num, by rw [hs1.out], hs2.out, trivial⟩
          case measure => simp [intOf]; omega
        · have hdf : digB ((s[k]'hks).toNat : Int) = false := by simpa using hdb
          rw [hdf] at D1 hs2
          have h16 := rdB_mono hs2.out (15 - k)
          rw [show k + 1 + (15 - k) = 16 by omega] at h16
          have e1 : X = 0 := by rw [← HX.out]; unfold readX; rw [if_neg (fun q => by rw [h16] at q; exact absurd q.2 (by simp))]
          have e2 : B = false := by rw [← HB.out]; unfold readB; rw [decide_eq_false (fun q => by rw [h16] at q; exact absurd q.2 (by simp))]
          subst e1 e2
          clear hdb hdf h16 HX HB
          go_wp2_with fail
          refine (D1.out _).mono ?_
          rintro e w1 ⟨rfl, rfl⟩
          go_wp2_with fail
          refine bodyPost_ret (v := .tuple #[.int .u64 0, .bool false]) (by simp [results, Try.results37, go_sem]) rfl ?_
          exact ⟨rfl, rfl⟩
      · obtain rfl : k = 16 := by omega
        have e1 : X = rdX (txI s) 16 := by rw [← HX.out]; unfold readX; rw [if_pos ⟨by omega, hrb⟩]
        have e2 : B = true := by rw [← HB.out]; unfold readB; rw [decide_eq_true ⟨by omega, hrb⟩]
        subst e1 e2
        clear HX HB hxx
        go_wp2_with fail
        refine bodyPost_ret (v := .tuple #[.int .u64 (rdX (txI s) 16), .bool true]) (by simp [results, Try.results37, go_sem]) rfl ?_
        exact ⟨rfl, rfl⟩
  · have e1 : readX (txI s) = 0 := by unfold readX; rw [if_neg (fun q => hl (by rw [← txI_length]; exact q.1))]
    have e2 : readB (txI s) = false := by unfold readB; rw [decide_eq_false (fun q => hl (by rw [← txI_length]; exact q.1))]
    rw [e1, e2]
    have k1 : ((s.size : Int) != 16) = true := by rw [bne_iff_ne]; omega
    clear e1 e2 hl
    go_enter Try.func37, Try.ntmps37
    go_wp2_with fail
    refine bodyPost_ret (v := .tuple #[.int .u64 0, .bool false]) (by simp [results, Try.results37, go_sem]) rfl ?_
    exact ⟨rfl, rfl⟩

theorem tblAt (k : Nat) (hk : k < 16) (h : k < (ByteArray.mk #[48, 49, 50, 51, 52, 53, 54, 55, 56, 57, 97, 98, 99, 100, 101, 102]).size) : (((ByteArray.mk #[48, 49, 50, 51, 52, 53, 54, 55, 56, 57, 97, 98, 99, 100, 101, 102])[k]'h).toNat : Int) = hexC k :=
  hexD k ⟨by omega, by omega⟩ h

set_option maxHeartbeats 2000000 in
theorem RRead_any (s : ByteArray) (hs : s.size ≤ maxLen) (w : World) :
    Calls Try.prog 38 #[.string s] w fun e w' => e = .returned (.tuple #[.int .u64 (readX (txI s)), .bool (readB (txI s))]) ∧ ∃ m, w' = w.drewN m := by
  have hl' := txI_length s
  obtain ⟨X, hX⟩ : ∃ X, readX (txI s) = X := ⟨_, rfl⟩
  obtain ⟨B, hB⟩ : ∃ B, readB (txI s) = B := ⟨_, rfl⟩
  have HX := hide hX
  have HB := hide hB
  rw [hX, hB]
  clear hX hB
  have hs' : s.size ≤ 9223372036854775807 := by unfold maxLen at hs; omega
  clear hs
  go_enter Try.func38, Try.ntmps38
  go_wp2_with fail
  go_loopw [4, 5] (fun x i wr => ∃ k : Nat, k ≤ s.size ∧ i = .int .i64 k ∧ x = .int .u64 (rdX (txI s) k) ∧ rdB (txI s) k = true ∧ ∃ m, wr = w.drewN m) (fun _ i _ => s.size - (intOf i).toNat)
  case atStart => exact ⟨0, Nat.zero_le _, rfl, rfl, rfl, 0, rfl⟩
  case round =>
    obtain ⟨k, hk, rfl, rfl, hrb, m, rfl⟩ := hrel
    have hxx := rdX_in (txI s) k
    by_cases hlt : k < s.size
    · have hv := txI_at s k hlt
      have hs1 := hide (show rdX (txI s) (k + 1) = (rdX (txI s) k * 16 + digN ((txI s).getD k 0)) % 18446744073709551616 from rfl)
      have hs2 := hide (show rdB (txI s) (k + 1) = (rdB (txI s) k && digB ((txI s).getD k 0)) from rfl)
      rw [hv, hrb, Bool.true_and] at hs2
      rw [hv] at hs1
      generalize rdX (txI s) k = x at hxx hs1 ⊢
      obtain ⟨b, hb⟩ : ∃ b, s[k]'hlt = b := ⟨_, rfl⟩
      rw [hb] at hs1 hs2
      have hd := digN_in (b.toNat : Int)
      go_wp2_with fail
      go_loopw [6, 7] (fun d j wr => ∃ q : Nat, q ≤ 16 ∧ j = .int .i64 q ∧ d = .int .u64 (digF (b.toNat : Int) q) ∧ ∃ m, wr = w.drewN m) (fun _ j _ => 16 - (intOf j).toNat)
      case atStart => exact ⟨0, Nat.zero_le _, rfl, rfl, m, rfl⟩
      case round =>
        obtain ⟨q, hq, rfl, rfl, m2, rfl⟩ := hrel
        by_cases hql : q < 16
        · have ht := tblAt q hql
          have hf := hide (show digF (b.toNat : Int) (q + 1) = if hexC q = (b.toNat : Int) then (q : Int) else digF (b.toNat : Int) q from rfl)
          have i0 : (0 : Int) ≤ (q : Int) := by omega
          by_cases he : hexC q = (b.toNat : Int)
          · have hf2 := hf.out.trans (if_pos he)
            have Hf := Lib.hid hf2
            have hg : (hexC q == (b.toNat : Int)) = true := by rw [beq_iff_eq]; exact he
            clear hf hf2 he
            go_wp2_with fail
            go_region
            go_wp2_with fail
            go_roundw
            case rel => exact ⟨q + 1, by omega, by go_num, by rw [Hf.out], m2 + 1, rfl⟩
            case measure => simp [intOf]; omega
          · have hf2 := hf.out.trans (if_neg he)
            have Hf := Lib.hid hf2
            have hg : (hexC q == (b.toNat : Int)) = false := by rw [beq_eq_false_iff_ne]; exact he
            clear hf hf2 he
            go_wp2_with fail
            go_region
            go_wp2_with fail
            go_roundw
            case rel => exact ⟨q + 1, by omega, by go_num, by rw [Hf.out], m2 + 1, rfl⟩
            case measure => simp [intOf]; omega
        · obtain rfl : q = 16 := by omega
          rw [digF_all]
          by_cases hdb : digB (b.toNat : Int) = true
          · rw [if_pos hdb]
            rw [hdb] at hs2
            generalize digN (b.toNat : Int) = d at hd hs1 ⊢
            have hg : (d == 99) = false := by rw [beq_eq_false_iff_ne]; omega
            have hw1 : IntKind.u64.wrap (x * 16) = x * 16 % 18446744073709551616 := IntKind.wrap_u64 _
            have hw2 : IntKind.u64.wrap (x * 16 % 18446744073709551616 + d) = (x * 16 + d) % 18446744073709551616 := by rw [IntKind.wrap_u64]; omega
            go_wp2_with fail
            go_roundw
            case rel => exact ⟨k + 1, by omega, by go_num, by rw [hs1.out], hs2.out, m2, rfl⟩
            case measure => simp [intOf]; omega
          · rw [if_neg hdb]
            have hdf : digB (b.toNat : Int) = false := by simpa using hdb
            rw [hdf] at hs2
            have h16 : rdB (txI s) (txI s).length = false := by
              have := rdB_mono hs2.out (s.size - (k + 1))
              rwa [show k + 1 + (s.size - (k + 1)) = (txI s).length by omega] at this
            have e1 : X = 0 := by rw [← HX.out]; unfold readX; rw [if_neg (fun q => by rw [q.1] at h16; rw [h16] at q; exact absurd q.2 (by simp))]
            have e2 : B = false := by rw [← HB.out]; unfold readB; rw [decide_eq_false (fun q => by rw [q.1] at h16; rw [h16] at q; exact absurd q.2 (by simp))]
            subst e1 e2
            clear hdb hdf h16 HX HB hs1 hs2 hd
            go_wp2_with fail
            refine bodyPost_ret (v := .tuple #[.int .u64 0, .bool false]) (by simp [results, Try.results38, go_sem]) rfl ?_
            exact ⟨rfl, m2, rfl⟩
    · obtain rfl : k = s.size := by omega
      by_cases hl : s.size = 16
      · have e1 : X = rdX (txI s) s.size := by rw [← HX.out]; unfold readX; rw [hl, if_pos ⟨by omega, by rw [← hl]; exact hrb⟩]
        have e2 : B = true := by rw [← HB.out]; unfold readB; rw [decide_eq_true ⟨by omega, by rw [← hl]; exact hrb⟩]
        subst e1 e2
        have hg : ((s.size : Int) != 16) = false := by rw [bne_eq_false_iff_eq]; omega
        clear HX HB hxx hrb hl hlt
        go_wp2_with fail
        refine bodyPost_ret (v := .tuple #[.int .u64 (rdX (txI s) s.size), .bool true]) (by simp [results, Try.results38, go_sem]) rfl ?_
        exact ⟨rfl, m, rfl⟩
      · have e1 : X = 0 := by rw [← HX.out]; unfold readX; rw [if_neg (fun q => hl (by omega))]
        have e2 : B = false := by rw [← HB.out]; unfold readB; rw [decide_eq_false (fun q => hl (by omega))]
        subst e1 e2
        have hg : ((s.size : Int) != 16) = true := by rw [bne_iff_ne]; omega
        clear HX HB hxx hrb hl hlt
        go_wp2_with fail
        refine bodyPost_ret (v := .tuple #[.int .u64 0, .bool false]) (by simp [results, Try.results38, go_sem]) rfl ?_
        exact ⟨rfl, m, rfl⟩

end Go.Proofs.Ytnpjnegelhaaaaa
