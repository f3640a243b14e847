/-
The law HashApart: its walk. No statement is proved here.
-/
import Derived.Test.YtnpjnegelhaaaaaHash2
import Derived.Lib.QuietBelow
import Derived.Outline
namespace Go.Proofs.Ytnpjnegelhaaaaa
open Go.RowKit

set_option maxHeartbeats 1000000 in
theorem Apart_out (A : Option Addr) (n cap : Nat) (i v : Int) (w : World) (h : n = 0 ∨ 3000 < (n : Int) ∨ i < 0 ∨ (n : Int) ≤ i) :
    Calls Try.prog 11 #[.slice A n cap, .int .i64 i, .int .u8 v] w (Says w (.bool true)) := by
  have H := hide (Below.refl w.heap.size w)
  by_cases h1 : n = 0
  · subst h1
    clear h
    go_enter Try.func11, Try.ntmps11
    go_wp2_with fail
    go_ret
    exact ⟨rfl, H.out⟩
  · have k1 : ((n : Int) == 0) = false := by rw [beq_eq_false_iff_ne]; omega
    by_cases h2 : 3000 < (n : Int)
    · clear h
      go_enter Try.func11, Try.ntmps11
      go_wp2_with fail
      go_ret
      exact ⟨rfl, H.out⟩
    · by_cases h3 : i < 0
      · clear h
        go_enter Try.func11, Try.ntmps11
        go_wp2_with fail
        go_ret
        exact ⟨rfl, H.out⟩
      · have h4 : (n : Int) ≤ i := by omega
        clear h
        go_enter Try.func11, Try.ntmps11
        go_wp2_with fail
        go_ret
        exact ⟨rfl, H.out⟩

set_option maxHeartbeats 2000000 in
set_option maxRecDepth 100000 in
theorem Apart_in (A : Option Addr) (n cap : Nat) (xs : List Int) (i : Nat) (v : Int) (w : World) (h : BY w A n cap xs) (hv : 0 ≤ v ∧ v ≤ 255) (hn : n ≤ 3000) (hi : i < n) :
    Calls Try.prog 11 #[.slice A n cap, .int .i64 i, .int .u8 v] w (Says w (.bool true)) := by
  obtain ⟨g, c, w1, hap, hg, hc1, hc2, hB, hL⟩ := append_bytes w A n cap xs (by omega) h 38
  have hxl := h.1
  have hys : ∀ y ∈ xs.set i v, 0 ≤ y ∧ y ≤ 255 := fun y hy => by
    rcases List.mem_or_eq_of_mem_set hy with q | q
    · exact h.2.2.2.1 y q
    · rw [q]; exact hv
  have hset : (bytesV xs).set i (.int .u8 v) = bytesV (xs.set i v) := by simp [bytesV, List.map_set]
  obtain ⟨hc, hf⟩ := hB.2 i (.int .u8 (xs.getD i 0)) (by simp [bytesV, List.getD_eq_getElem?_getD, show i < xs.length by omega])
  have hB2 := hB.set i (by simp [bytesV]; omega) (.int .u8 v)
  rw [hset] at hB2
  have hL2 := hL.setCell (p := ⟨g, i, none⟩) hg (.int .u8 v)
  have hy2 := BY.ofBytes (c := c) (by simp; omega) hc2 hys hB2
  rw [List.length_set, hxl] at hy2
  have hx2 := h.below hL2
  have H1 := hide (fun dd os => HBytes_any A n cap xs (Sort.grow (redrawn (w1.setCell ⟨g, i, none⟩ (.int .u8 v)) dd) os) (hx2.below ((below_regrown _ dd os).mono (Nat.le_refl _))))
  have H2 := hide (fun dd os => HBytes_any (some ⟨g, 0, none⟩) n c (xs.set i v) (Sort.grow (redrawn (w1.setCell ⟨g, i, none⟩ (.int .u8 v)) dd) os) (hy2.below ((below_regrown _ dd os).mono (Nat.le_refl _))))
  have hq := fnv_apart fnv0_in (xs := xs) (ys := xs.set i v) hi (fun j => isU64_byte (getD_u64 h.2.2.2.1 j)) (isU64_byte (getD_u64 hys i)) (fun j hj => by simp [List.getD_eq_getElem?_getD, List.getElem?_set_ne (Ne.symm hj)])
  rw [show (xs.set i v).getD i 0 = v by simp [List.getD_eq_getElem?_getD, show i < xs.length by omega]] at hq
  obtain ⟨b, o, rfl, _, hcell⟩ := hx2.2.2.2.2 (by omega)
  have e1 := cell_regrown (hcell i hi)
  have AL := hide alive12_any
  have HL := hide hL2
  clear hys hset hB hB2 hL hL2 hy2 hx2 hcell h
  generalize xs.getD i 0 = a at *
  generalize fnvK 14695981039346656037 xs n = d1 at *
  generalize fnvK 14695981039346656037 (xs.set i v) n = d2 at *
  have hbool : ((d1 == d2) == (a == v)) = true := by
    rw [beq_iff_eq, Bool.eq_iff_iff, beq_iff_eq, beq_iff_eq]; exact hq
  clear hq
  have k1 : ((n : Int) == 0) = false := by rw [beq_eq_false_iff_ne]; omega
  have k2 : ¬ 3000 < (n : Int) := by omega
  have k3 : ¬ (n : Int) ≤ (i : Int) := by omega
  go_enter Try.func11, Try.ntmps11
  go_wp2_with (first | (at_builtin; refine wpList_append_run rfl _ _ _ rfl _ _ rfl rfl _ _ hap ?_) | fail)
  refine wp_region_quiet_below (by kernel_rfl) (by kernel_rfl) ?_
  repeat (go_big_quiet_step ((first
    | (go_at_call 40; first | exact Calls.regrown_of (H1.out _ _) | exact Calls.regrown_of (H2.out _ _))
    | (go_at_call 45; exact Calls.regrown_of (AL.out _)))))
  refine wpQuiet_nil ?_
  rintro wz ⟨pz, hz⟩
  have L := hide (show Below w.heap.size w wz from hz ▸ HL.out.trans ((below_regrown _ _ _).mono HL.out.size))
  clear hz
  go_wp2_with fail
  go_ret
  exact ⟨rfl, L.out⟩

theorem HashApart_walk (A : Option Addr) (n cap : Nat) (xs : List Int) (i : Int) (v : Int) (w : World) (h : BY w A n cap xs) (hv : 0 ≤ v ∧ v ≤ 255) :
    Calls Try.prog 11 #[.slice A n cap, .int .i64 i, .int .u8 v] w (Says w (.bool true)) := by
  by_cases k : n = 0 ∨ 3000 < (n : Int) ∨ i < 0 ∨ (n : Int) ≤ i
  · exact Apart_out A n cap i v w k
  · have e : i = (i.toNat : Int) := by omega
    rw [e]
    exact Apart_in A n cap xs i.toNat v w h hv (by omega) (by omega)

end Go.Proofs.Ytnpjnegelhaaaaa
