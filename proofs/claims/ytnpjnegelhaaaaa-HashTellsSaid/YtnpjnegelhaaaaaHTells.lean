/-
The law HashTells: its walk. No statement is proved here.
-/
import Derived.Test.YtnpjnegelhaaaaaHImg1
import Derived.Test.YtnpjnegelhaaaaaHImg2
import Derived.Lib.QuietBelow
namespace Go.Proofs.Ytnpjnegelhaaaaa
open Go.RowKit

theorem says_same {f : FuncId} {args : Array Value} {w : World} {v : Value} (h : Calls Try.prog f args w fun e w' => e = .returned v ∧ w = w') : Calls Try.prog f args w (Says w v) :=
  h.mono fun e w' k => ⟨k.1, by rw [← k.2]; exact Below.refl _ _⟩
theorem txI_str (l : List Int) (h : ∀ x ∈ l, 0 ≤ x ∧ x ≤ 255) : txI (strOfNums l) = l := by
  unfold txI
  rw [strOfNums_data, List.map_map]
  conv => rhs; rw [← List.map_id l]
  apply List.map_congr_left
  intro x hx
  have := h x hx
  simp
  omega
theorem hexL_byte (x : Int) : ∀ y ∈ hexL x, 0 ≤ y ∧ y ≤ 255 := by
  intro y hy
  simp only [hexL, List.mem_map] at hy
  obtain ⟨j, _, rfl⟩ := hy
  generalize x / 16 ^ (15 - j) = z
  unfold hexC
  split <;> omega
theorem hexS_back {x : Int} (hx : isU64 x) : readX (txI (hexS x)) = x ∧ readB (txI (hexS x)) = true := by
  unfold hexS
  rw [txI_str _ (hexL_byte x)]
  exact hexL_read hx

set_option maxHeartbeats 4000000 in
set_option maxRecDepth 100000 in
theorem HashTells_walk (x y c : Int) (A : Option Addr) (n cap : Nat) (xs : List Int) (z : Int) (s : ByteArray) (w : World) (h : BY w A n cap xs) (hz : isU64 z) (hs : s.size ≤ maxLen) :
    Calls Try.prog 9 #[.agg #[.int .i64 x, .int .i64 y, .int .i64 c, .slice A n cap], .int .u64 z, .string s] w (Says w (.bool true)) := by
  have H0 := below_alloc w (.cells #[.int .i64 x, .int .i64 y, .int .i64 c, .slice A n cap] 40)
  have B0 := Bx.at (w := w) (g := w.heap.size) [.int .i64 x, .int .i64 y, .int .i64 c, .slice A n cap] 40 rfl
  have e0 : [Value.int .i64 x, .int .i64 y, .int .i64 c, .slice A n cap].toArray = #[Value.int .i64 x, .int .i64 y, .int .i64 c, .slice A n cap] := rfl
  rw [e0] at B0
  obtain ⟨_, a0, a1, a2, a3, _, _, _, _⟩ := B0.four
  have HL0 := hide H0
  by_cases k1 : 20000 < (n : Int)
  · clear B0 H0 h hz hs
    go_enter Try.func9, Try.ntmps9
    go_wp2_with fail
    go_ret
    exact ⟨rfl, HL0.out⟩
  · by_cases k2 : 100 < (s.size : Int)
    · clear B0 H0 h hz hs
      go_enter Try.func9, Try.ntmps9
      go_wp2_with fail
      go_ret
      exact ⟨rfl, HL0.out⟩
    · have R1 := hide (fun w => HRead_any s w)
      have R2 := hide (fun w => RRead_any s hs w)
      have R3 := hide (fun w => HRead_any (hexS z) w)
      rw [(hexS_back hz).1, (hexS_back hz).2] at R3
      have X1 := hide (fun w => Hex_any z w hz)
      have X2 := hide (fun w => says_same (RHex_any z hz w))
      have AL := hide alive12_any
      have hn : n ≤ 20000 := by omega
      have I1 := hide (fun w' (hb : Below w.heap.size w w') => HImage_any x y c A n cap xs w' (h.below hb) hn)
      have I2 := hide (fun w' (hb : Below w.heap.size w w') => RImage_any x y c A n cap xs w' (h.below hb) hn)
      have D1 := hide (fun w' (hb : Below w.heap.size w w') => HBytes_any A n cap xs w' (h.below hb))
      have D2 := hide (fun w' (hb : Below w.heap.size w w') => says_same (RBytes_any A n cap xs w' (h.below hb)))
      generalize fnvK 14695981039346656037 xs n = d1 at *
      generalize fnvK 14695981039346656037 (((fourL x 4 ++ fourL y 4) ++ fourL c 4) ++ xs) (12 + n) = d2 at *
      generalize hexS z = t at *
      generalize readX (txI s) = p at *
      generalize readB (txI s) = q at *
      have HB0 := hide B0
      clear B0 H0 h hz hs
      go_enter Try.func9, Try.ntmps9
      go_wp2_with fail
      refine (R1.out _).mono ?_
      rintro e w1 ⟨rfl, rfl⟩
      go_wp2_with fail
      refine (R2.out _).mono ?_
      rintro e w1 ⟨rfl, m, rfl⟩
      go_wp2_with fail
      refine (X1.out _).mono ?_
      rintro e w2 ⟨rfl, hb⟩
      have L2 := hide ((bdrewN HL0.out m).trans (hb.mono (bdrewN HL0.out m).size))
      have B2 := ((HB0.out.drewN m).below hb)
      clear hb a0 a1 a2 a3
      go_wp2_with fail
      refine (R3.out _).mono ?_
      rintro e w3 ⟨rfl, rfl⟩
      obtain ⟨_, a0, a1, a2, a3, _, _, _, _⟩ := B2.four
      have E1 := hide (fun dd os => D1.out (Sort.grow (redrawn w2 dd) os) (L2.out.trans ((below_regrown w2 dd os).mono L2.out.size)))
      have E2 := hide (fun dd os => D2.out (Sort.grow (redrawn w2 dd) os) (L2.out.trans ((below_regrown w2 dd os).mono L2.out.size)))
      have E3 := hide (fun dd os => I1.out (Sort.grow (redrawn w2 dd) os) (L2.out.trans ((below_regrown w2 dd os).mono L2.out.size)))
      have E4 := hide (fun dd os => I2.out (Sort.grow (redrawn w2 dd) os) (L2.out.trans ((below_regrown w2 dd os).mono L2.out.size)))
      have z0 := cell_regrown a0
      have z1 := cell_regrown a1
      have z2 := cell_regrown a2
      have z3 := cell_regrown a3
      clear B2
      go_wp2_with fail
      refine wp_region_quiet_below (by kernel_rfl) (by kernel_rfl) ?_
      repeat (go_big_quiet_step ((first
        | (go_at_call 40; exact Calls.regrown_of (E1.out _ _))
        | (go_at_call 41; exact Calls.regrown_of (E2.out _ _))
        | (go_at_call 42; exact Calls.regrown_of (E3.out _ _))
        | (go_at_call 43; exact Calls.regrown_of (E4.out _ _))
        | (go_at_call 39; exact Calls.regrown_of (X1.out _))
        | (go_at_call 44; exact Calls.regrown_of (X2.out _))
        | (go_at_call 45; exact Calls.regrown_of (AL.out _)))))
      refine wpQuiet_nil ?_
      rintro wz ⟨pz, hz⟩
      have L := hide (show Below w.heap.size w wz from hz ▸ L2.out.trans ((below_regrown _ _ _).mono L2.out.size))
      clear hz
      go_wp2_with fail
      go_ret
      exact ⟨rfl, L.out⟩

end Go.Proofs.Ytnpjnegelhaaaaa
