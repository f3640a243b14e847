/-
Contract of the reference: Floor, by long division. No statement is proved here.
-/
import Derived.Test.YtehkccogbgjcaaaFlo1
namespace Go.Proofs.Ytehkccogbgjcaaa
open Go.RowKit

theorem quiet_left {P : Program} {f : FuncId} {args : Array Value} {w : World} {n : Nat} {v : Value}
    (h : Calls P f args (w.drewN n) fun e w' => e = .returned v ∧ w.drewN n = w') : Calls P f args (w.drewN n) fun e w'' => e = .returned v ∧ ∃ m, w'' = w.drewN m :=
  h.mono fun _ _ ⟨he, hm⟩ => ⟨he, n, hm.symm⟩
theorem DW.drewN {w : World} {A : Option Addr} {n c : Nat} {l : List Nat} (h : DW w A n c l) (k : Nat) : DW (w.drewN k) A n c l := h
theorem digit_eq (A : Option Addr) (n c : Nat) (l : List Nat) (i : Int) (d : Nat) (hd : dg l i = d) (w : World) (h : DW w A n c l) :
    Calls Try.prog 76 #[.slice A n c, .int .i64 i] w fun e w' => e = .returned (.int .i64 d) ∧ w = w' := by
  have := digit_any A n c l i w h
  rw [hd] at this; exact this

theorem own_one (w : World) (x : Int) : (w.alloc (.cells #[.int .i64 x] 3)).ownsRow w.heap.size 3 1 (.slice (some ⟨w.heap.size, 0, none⟩) 1 1) 1 [.int .i64 x] :=
  ⟨rfl, .inr ⟨w.heap.size, 1, _, rfl, Nat.le_refl _, heap_alloc_new w _, Nat.le_refl _, by unfold maxLen; omega, rfl, rfl⟩⟩
theorem dv_one (l : List Nat) : ∀ u ∈ dv l, u.oneCell' = true := fun u hu => by
  unfold dv at hu
  obtain ⟨d, _, rfl⟩ := List.mem_map.1 hu
  rfl
/-- a digit put ahead of a row -/
theorem front_row {wr w1 : World} {v' : Value} {x nr : Nat} {lr : List Nat} (hown : w1.ownsRow wr.heap.size 3 1 v' (1 + nr) ([.int .i64 (x : Int)] ++ dv lr)) (hg : (wr.alloc (.cells #[.int .i64 (x : Int)] 3)).grownBy w1 (some wr.heap.size)) :
    ∃ A1 c1, v' = .slice A1 (1 + nr) c1 ∧ DW w1 A1 (1 + nr) c1 (x :: lr) ∧ Below wr.heap.size wr w1 := by
  obtain ⟨A1, c1, rfl⟩ := own_slice hown
  refine ⟨A1, c1, rfl, DW.of_own (l := x :: lr) (by simpa [dv] using hown), (below_alloc wr _).grown hg (by simp) (fun k hk => by injection hk with hk; omega)⟩

theorem dg_le {l : List Nat} (h : Dig l) (i : Int) : dg l i ≤ 32767 := by
  unfold dg
  split
  · have := h i.toNat; omega
  · omega

theorem Bel.drewN {w w' : World} (h : Bel w w') (n : Nat) : Bel w (w'.drewN n) := below_drewN h n
theorem dg_sub {l : List Nat} {n j : Nat} (h : j ≤ n) : dg l ((n : Int) - (j : Int)) = dgn l (n - j) := by
  rw [show (n : Int) - (j : Int) = ((n - j : Nat) : Int) by omega, dg_nat]
/-- the first guess, as the walk reckons it -/
theorem srch_start {lb lr : List Nat} {n' T x R f1 f2 f3 F : Nat} (hn : 0 < n') (hl : lb.length = n') (hT : T = dgn lb (n' - 1) * 32768 + (if n' = 1 then 0 else dgn lb (n' - 2))) (nb : Norm lb) (db : Dig lb)
    (dr : Dig lr) (nr : Norm lr) (hv : val lr = x + 32768 * R) (hRB : R < val lb) (hx : x < 32768) (hf1 : dg lr (n' : Int) = f1) (hf2 : dg lr ((n' : Int) - 1) = f2) (hf3 : dg lr ((n' : Int) - 2) = f3)
    (hF : ((f1 : Int) * 32768 + (f2 : Int)) * 32768 + (f3 : Int) = (F : Int)) :
    ∃ lo hi : Nat, wrap64 ((F : Int) / ((T : Int) + 1)) = (lo : Int) ∧ min 32767 (((F : Int) + 1) / (T : Int)) = (hi : Int) ∧ Srch (val lr) (val lb) lo hi := by
  obtain ⟨k, rfl⟩ : ∃ k, n' = k + 1 := ⟨n' - 1, by omega⟩
  have hlen : lr.length ≤ k + 2 := nr.len (by
    have h1 := val_lt db
    rw [hl] at h1
    rw [hv, Nat.pow_succ 32768 (k + 1)]
    omega)
  have hg := guess_digits hl hlen dr db nb
  have e1 : f1 = dgn lr (k + 1) := by rw [← hf1, dg_nat]
  have e2 : f2 = dgn lr k := by rw [← hf2]; exact dg_sub (l := lr) (n := k + 1) (j := 1) (by omega)
  have e3 : f3 = if k = 0 then 0 else dgn lr (k - 1) := by
    rw [← hf3]
    by_cases h0 : k = 0
    · subst h0; rfl
    · rw [if_neg h0]; exact dg_sub (l := lr) (n := k + 1) (j := 2) (by omega)
  have eT : T = dgn lb k * 32768 + (if k = 0 then 0 else dgn lb (k - 1)) := by
    rw [hT, show k + 1 - 1 = k by omega, show k + 1 - 2 = k - 1 by omega]
    congr 1
    by_cases h0 : k = 0
    · rw [if_pos h0, if_pos (by omega)]
    · rw [if_neg h0, if_neg (by omega)]
  rw [← e1, ← e2, ← e3, ← eT] at hg
  rw [show (f1 * 32768 + f2) * 32768 + f3 = F by omega] at hg
  have hF2 : F ≤ 9223372036854775807 := by
    have a1 := dr (k + 1); have a2 := dr k
    rw [← e1] at a1; rw [← e2] at a2
    have a3 : f3 < 32768 := by rw [e3]; split; omega; exact dr _
    omega
  have hq : val lr / val lb ≤ 32767 := by rw [hv, Nat.add_comm, Nat.mul_comm]; exact long_digit hRB hx
  have hle : F / (T + 1) ≤ F := Nat.div_le_self _ _
  refine ⟨F / (T + 1), min 32767 ((F + 1) / T), ?_, ?_, hg.1, ?_, by omega⟩
  · rw [show (F : Int) / ((T : Int) + 1) = ((F / (T + 1) : Nat) : Int) by simp]
    generalize F / (T + 1) = q at hle ⊢
    exact IntWalk.wrap64_in _ (by omega)
  · rw [show ((F : Int) + 1) / (T : Int) = (((F + 1) / T : Nat) : Int) by simp]
    generalize (F + 1) / T = q
    omega
  · have := hg.2; omega

def SrchRel (W : World) (R B : Nat) (lv hv : Value) (wr : World) : Prop := ∃ lo hi : Nat, lv = .int .i64 (lo : Int) ∧ hv = .int .i64 (hi : Int) ∧ Srch R B lo hi ∧ Bel W wr

theorem DW.drew {w : World} {A : Option Addr} {n c : Nat} {l : List Nat} (h : DW w A n c l) : DW w.drew A n c l := h
theorem BV.of_dw {w : World} {N : Nat} {A : Option Addr} {n c : Nat} {l : List Nat} (h : DW w A n c l) (hd : Dig l) (hn : Norm l) (hN : n ≤ N) : BV w N false A n c (val l) := ⟨val l, ⟨l, h, hd, hn, rfl, hN⟩, by simp, by simp⟩
theorem BV.nonneg {w : World} {N : Nat} {s : Bool} {A : Option Addr} {n c x y : Nat} (h : BV w N s A n c ((x : Int) * (y : Int))) : NW w N A n c (x * y) := by
  obtain ⟨v, h1, h2, h3⟩ := h
  rw [← Int.natCast_mul] at h3
  have e : v = x * y := by
    generalize x * y = p at *
    cases s <;> simp at h2 h3 <;> omega
  rw [← e]; exact h1

/-- the outer loop's state -/
def OutRel (W : World) (la : List Nat) (n n' B : Nat) (qv rv iv : Value) (wr : World) : Prop :=
  ∃ (k R : Nat) (lq : List Nat) (Aq Ar : Option Addr) (nq cq nr cr : Nat), k ≤ n ∧ iv = .int .i64 ((k : Int) - 1) ∧ qv = .slice Aq nq cq ∧ rv = .slice Ar nr cr ∧ DW wr Aq nq cq lq ∧ Dig lq ∧ nq ≤ n - k ∧ NW wr n' Ar nr cr R ∧ R < B ∧
    val lq * B + R = tp (dgn la) n (n - k) ∧ Bel W wr

theorem DW.nil (w : World) : DW w none 0 0 [] := ⟨rfl, Nat.le_refl _, by unfold maxLen; omega, Reads.none_, fun ad e => by cases e⟩
theorem NW.nil (w : World) (N : Nat) : NW w N none 0 0 0 := ⟨[], DW.nil w, Dig_nil, Norm_nil, rfl, Nat.zero_le _⟩
theorem floor_parts {la : List Nat} {n q B R : Nat} (hl : la.length = n) (h : q * B + R = tp (dgn la) n (n - 0)) (hR : R < B) : val la / B = q ∧ val la % B = R := by
  rw [Nat.sub_zero, ← hl, tp_all] at h
  rw [← h, Nat.add_comm, Nat.add_mul_div_right _ _ (by omega), Nat.div_eq_of_lt hR, Nat.add_mul_mod_self_right, Nat.mod_eq_of_lt hR]
  exact ⟨by omega, rfl⟩
theorem OutRel.step {W w6 w7 : World} {la lb lq lr2 : List Nat} {n n' m R Q mq c7 n6 c6 : Nat} {A7 A6 : Option Addr} (hk : m + 1 ≤ n) (hla : la.length = n) (hlb : lb.length = n') (db : Dig lb) (hB : 0 < val lb)
    (hval : val lq * val lb + R = tp (dgn la) n (n - (m + 1))) (hvr : val lr2 = dgn la m + 32768 * R) (hQ : val lr2 / val lb = Q) (hQb : Q ≤ 32767) (hmq : mq ≤ n - (m + 1)) (hdq : Dig lq)
    (hD7 : DW w7 A7 (1 + mq) c7 (Q :: lq)) (hN6 : NW w6 100002 A6 n6 c6 (val lr2 - Q * val lb)) (hb7 : Below w6.heap.size w6 w7) (hk6 : Bel W w6) :
    OutRel W la n n' (val lb) (.slice A7 (1 + mq) c7) (.slice A6 n6 c6) (.int .i64 ((m : Int) - 1)) w7 := by
  have hlt : val lr2 - Q * val lb < val lb := by rw [← hQ]; exact long_rest hB
  have hp := val_lt db
  rw [hlb] at hp
  refine ⟨m, val lr2 - Q * val lb, Q :: lq, A7, A6, 1 + mq, c7, n6, c6, by omega, rfl, rfl, rfl, hD7, Dig_cons hdq (by omega), by omega, (hN6.below hb7).tight (Nat.lt_trans hlt hp), hlt, ?_, Bel.trans hk6 hb7⟩
  have e : n - m = n - (m + 1) + 1 := by omega
  rw [e, tp, ← hval, val_cons, show n - 1 - (n - (m + 1)) = m by omega]
  have h := long_step (t := val lq * val lb + R) (q := val lq) (r := R) (B := val lb) (a := dgn la m) (Q := Q) rfl (by rw [← hQ, hvr, Nat.add_comm, Nat.mul_comm])
  rw [hvr, Nat.add_comm (dgn la m), Nat.mul_comm 32768 R]
  exact h

set_option maxHeartbeats 1000000 in
set_option maxRecDepth 100000 in
theorem Floor_long (s s1 : Bool) (A A' : Option Addr) (n n' c c' : Nat) (la lb : List Nat) (w : World) (hn : n ≤ 100000) (hn' : n' ≤ 100000) (ha : DW w A n c la) (hb : DW w A' n' c' lb) (da : Dig la) (db : Dig lb) (_na : Norm la) (nb : Norm lb) (hB : 0 < val lb) (hlong : 4 < n ∨ (n ≤ 4 ∧ 4 < n')) (z : Int) (hz : Hid (Int.fdiv (if s = true then -(val la : Int) else val la) (if s1 = true then -(val lb : Int) else val lb) = z)) :
    Calls Try.prog 51 #[.agg #[.bool s, .slice A n c], .agg #[.bool s1, .slice A' n' c']] w (MadeB w (n + 2) z) := by
  have hn0 : 0 < n' := by
    rcases Nat.eq_zero_or_pos n' with h | h
    · have := (nb.zero).2 (by rw [hb.1]; exact h); omega
    · exact h
  obtain ⟨T, hT⟩ : ∃ T, T = dgn lb (n' - 1) * 32768 + (if n' = 1 then 0 else dgn lb (n' - 2)) := ⟨_, rfl⟩
  obtain ⟨d1, hd1⟩ : ∃ d, dg lb ((n' : Int) - 1) = d := ⟨_, rfl⟩
  obtain ⟨d2, hd2⟩ : ∃ d, dg lb ((n' : Int) - 2) = d := ⟨_, rfl⟩
  have hd1b : d1 ≤ 32767 := by rw [← hd1]; exact dg_le db _
  have hd2b : d2 ≤ 32767 := by rw [← hd2]; exact dg_le db _
  have hTb : T ≤ 1073741823 := by
    have h1 := db (n' - 1); have h2 := db (n' - 2)
    rw [hT]; split <;> omega
  have hTp : 1 ≤ T := by
    have h1 := nb (n' - 1) (by rw [hb.1]; omega)
    rw [hT]; omega
  have u1 : IntKind.i64.wrap ((d1 : Int) * 32768) = (d1 : Int) * 32768 := IntWalk.i64_in _ (by omega)
  have u2 : IntKind.i64.wrap ((d1 : Int) * 32768 + (d2 : Int)) = (T : Int) := by
    rw [IntWalk.i64_in _ (by omega), hT, ← hd1, ← hd2, show (n' : Int) - 1 = ((n' : Nat) : Int) - ((1 : Nat) : Int) from rfl, dg_sub (by omega)]
    by_cases h1 : n' = 1
    · subst h1; rw [if_pos rfl]; rfl
    · rw [if_neg h1, show (n' : Int) - 2 = ((n' : Nat) : Int) - ((2 : Nat) : Int) from rfl, dg_sub (by omega)]; omega
  have HDa := hide fun w' (h : Bel (Three w s s1 A A' n n' c c') w') => ha.below ((Three.below w s s1 A A' n n' c c').trans (Below.mono h (by rw [Three.size]; omega)))
  have HDb := hide fun w' (h : Bel (Three w s s1 A A' n n' c c') w') => hb.below ((Three.below w s s1 A A' n n' c c').trans (Below.mono h (by rw [Three.size]; omega)))
  have HS := hide (Three.cells w s s1 A A' n n' c c')
  have HX := hide (Three.box w s s1 A A' n n' c c')
  have H5 := hide (Three.after w s s1 A A' n n' c c')
  have HBw := hide fun w' (h : Bel (Three w s s1 A A' n n' c c') w') => (Three.below w s s1 A A' n n' c c').trans (Below.mono h (by rw [Three.size]; omega))
  have H4 := hide (Three.args w s s1 A A' n n' c c')
  have Hd1 := Lib.hid hd1
  have Hd2 := Lib.hid hd2
  have HD0 := hide (HDb.out _ (Three.start w s s1 A A' n n' c c'))
  have i1 : IntKind.i64.wrap ((n' : Int) - 1) = (n' : Int) - 1 := IntWalk.i64_in _ (by omega)
  have i2 : IntKind.i64.wrap ((n' : Int) - 2) = (n' : Int) - 2 := IntWalk.i64_in _ (by omega)
  have hlen : (4 < n) ∨ (n ≤ 4 ∧ 4 < n') := hlong
  have Da := hide da
  obtain ⟨i0, hi, hz0, hz1, hz2⟩ := info_parts infoInt
  have HL := Lib.hid ha.1
  have HL' := Lib.hid hb.1
  have HvB := hide hB
  have HTT := Lib.hid hT
  have Hdb := hide db
  have Hnb := hide nb
  clear hT hd1 hd2 ha hb da db _na nb hB
  rcases hlen with hl | ⟨hl, hl2⟩
  all_goals
    go_enter Try.func51, Try.ntmps51
    go_wp2_with fail
    go_region_held3 (fun w' => w'.cell? ⟨w.heap.size, 0, none⟩ = some (.bool s) ∧ w'.cell? ⟨w.heap.size, 1, none⟩ = some (.slice A n c) ∧ w'.cell? ⟨w.heap.size + 1, 0, none⟩ = some (.bool s1) ∧ w'.cell? ⟨w.heap.size + 1, 1, none⟩ = some (.slice A' n' c'))
      ((refine H4.out _ ?_; repeat (first | assumption | exact Three.start _ _ _ _ _ _ _ _ _ | refine Bel.drew ?_)))
      (first
        | (go_at_call 76; refine (digit_any _ _ _ lb _ _ (HD0.out.below (Below.drew (Below.refl _ _)))).mono ?_; rintro e w' ⟨rfl, rfl⟩; (first | rw [Hd1.out] | rw [Hd2.out])))
    obtain ⟨W0, hW0⟩ : ∃ W0, W0 = (Three w s s1 A A' n n' c c').drew := ⟨_, rfl⟩
    have hbel0 : Bel (Three w s s1 A A' n n' c c') W0 := by rw [hW0]; exact (Bel.refl _).drew
    obtain ⟨_, a1, a2, a3, a4, a5, a6, a7, a8⟩ := HS.out _ hbel0
    unfold Three at hW0
    rw [← hW0]
    clear hW0
    go_wp2_with fail
    go_loopw [5, 6, 9] (fun qv rv iv wr => OutRel (Three w s s1 A A' n n' c c') la n n' (val lb) qv rv iv wr) (fun _ _ iv _ => (intOf iv + 1).toNat)
    case atStart => exact ⟨n, 0, [], none, none, 0, 0, 0, 0, Nat.le_refl _, rfl, rfl, rfl, DW.nil W0, Dig_nil, by omega, NW.nil W0 n', HvB.out, by rw [Nat.sub_self, val_nil, Nat.zero_mul]; rfl, hbel0⟩
    case round =>
      clear a1 a2 a3 a4 a5 a6 a7 a8
      obtain ⟨k, R, lq, Aq, Ar, mq, cq, nr, cr, hk, rfl, rfl, rfl, hDq, hdq, hnq, hNr, hRB, hval, hbel⟩ := hrel
      obtain ⟨_, a1, a2, a3, a4, a5, a6, a7, a8⟩ := HS.out _ hbel
      have hDa := HDa.out _ hbel
      by_cases hk0 : 0 < k
      · obtain ⟨m, rfl⟩ : ∃ m, k = m + 1 := ⟨k - 1, by omega⟩
        rw [show ((m + 1 : Nat) : Int) - 1 = (m : Int) by omega]
        obtain ⟨ad, hA, hb, hc⟩ := hDa.cell (k := m) (by omega)
        subst hA
        obtain ⟨lr, hDr, hdr, hnr, hvr, hlr⟩ := hNr
        have hrd := hDr.2.2.2.1.alloc (Nat.le_refl _) (.cells #[.int .i64 (dgn la m : Nat)] 3)
        have hrm := hDr.2.2.1
        have hrm2 := hDr.2.1
        have Hdx := hide (Da.out m)
        have Hdr := hide hdr
        have Hvr := Lib.hid hvr
        have HDq := hide hDq
        have Hdq := hide hdq
        have Hval := Lib.hid hval
        clear hdr hvr hDr hnr hDq hdq hval
        go_wp2_with (first
          | (at_builtin; refine wpList_append_any _ rfl (.tmp 55) (.tmp 56) _ rfl wr.heap.size 3 i0 (.int .i64 0) 1 8 Try.underlying22 hi hz0 hz1 hz2 rfl (by decide) (.slice (some ⟨wr.heap.size, 0, none⟩) 1 1) 1 [.int .i64 (dgn la m : Nat)] rfl (own_one wr _) _ Ar nr cr (dv lr) rfl hrd (dv_one lr) ?c3 ?c4 ?c5 ?_))
        case c3 => unfold maxLen; omega
        case c4 => omega
        case c5 => simp
        · intro v1 w1 hown1 hg1 _
          obtain ⟨A1, c1, rfl, hD1, hb1⟩ := front_row hown1 hg1
          have hk1 := Bel.trans hbel hb1
          have Hd1r := hide (Dig_cons Hdr.out Hdx.out)
          have HD1 := hide hD1
          clear hown1 hg1 hD1 hrd
          go_wp2_with fail
          refine (trim_any _ _ _ _ _ HD1.out).mono ?_
          intro e w' ht
          have hm := Made.of_trim (N := 100002) ht HD1.out Hd1r.out (val_cons _ _) (by omega) (Below.refl _ _)
          obtain ⟨A2, n2, c2, rfl, hN2, hbx⟩ := hm
          obtain ⟨j, _, _, _, _, rfl⟩ := ht
          rw [Hvr.out] at hN2
          obtain ⟨lr2, hDr2, hdr2, hnr2, hvr2, nr_le⟩ := hN2
          obtain ⟨f1, hf1⟩ : ∃ f, dg lr2 (n' : Int) = f := ⟨_, rfl⟩
          obtain ⟨f2, hf2⟩ : ∃ f, dg lr2 ((n' : Int) - 1) = f := ⟨_, rfl⟩
          obtain ⟨f3, hf3⟩ : ∃ f, dg lr2 ((n' : Int) - 2) = f := ⟨_, rfl⟩
          have g1 : f1 ≤ 32767 := by rw [← hf1]; exact dg_le hdr2 _
          have g2 : f2 ≤ 32767 := by rw [← hf2]; exact dg_le hdr2 _
          have g3 : f3 ≤ 32767 := by rw [← hf3]; exact dg_le hdr2 _
          obtain ⟨F, hF⟩ : ∃ F : Nat, ((f1 : Int) * 32768 + (f2 : Int)) * 32768 + (f3 : Int) = (F : Int) := ⟨(f1 * 32768 + f2) * 32768 + f3, by omega⟩
          have HF := Lib.hid hF
          have hFb : (F : Int) ≤ 35184372088831 := by omega
          have Hf1 := Lib.hid hf1
          have Hf2 := Lib.hid hf2
          have Hf3 := Lib.hid hf3
          have Hdr2 := hide hdr2
          have Hnr2 := hide hnr2
          have Hvr2 := Lib.hid hvr2
          have v1 : IntKind.i64.wrap ((T : Int) + 1) = (T : Int) + 1 := IntWalk.i64_in _ (by omega)
          have v2 : IntKind.i64.wrap ((F : Int) + 1) = (F : Int) + 1 := IntWalk.i64_in _ (by omega)
          have hsr := srch_start hn0 HL'.out HTT.out Hnb.out Hdb.out hdr2 hnr2 hvr2 hRB Hdx.out hf1 hf2 hf3 hF
          obtain ⟨lo0, hi0, hlo0, hhi0, hsr⟩ := hsr
          have Hlo := Lib.hid hlo0
          have Hhi := Lib.hid hhi0
          have Hsr := hide hsr
          clear hf1 hf2 hf3 hdr2 hnr2 hvr2 hF hlo0 hhi0 hsr
          go_wp2_with (go_at_call 76; refine (digit_any _ _ _ lr2 _ _ hDr2).mono ?_; rintro e w' ⟨rfl, rfl⟩; (first | rw [Hf1.out] | rw [Hf2.out] | rw [Hf3.out]))
          rw [HF.out]
          go_quiet (fail)
          first | rw [Hlo.out, Hhi.out] | rw [Hlo.out, if_min, Hhi.out]
          have hk2 : Bel (Three w s s1 (some ad) A' n n' c c') (w1.drewN nq) := hk1.drewN _
          have HD2 := hide (hDr2.drewN nq)
          have HQ2 := hide ((HDq.out.below hb1).drewN nq)
          clear hDr2 hk1 hb1
          generalize w1.drewN nq = W2 at *
          obtain ⟨_, b1, b2, b3, b4, b5, b6, b7, b8⟩ := HS.out _ hk2
          clear hc
          go_wp2_with fail
          go_loopw [11, 12] (fun lv hv wr => SrchRel W2 (val lr2) (val lb) lv hv wr) (fun lv hv _ => (intOf hv - intOf lv).toNat)
          case atStart => exact ⟨lo0, hi0, rfl, rfl, Hsr.out, Bel.refl _⟩
          case round =>
            clear b1 b2 b3 b4 b5 b6 b7 b8 a1 a2 a3 a4 a5 a6 a7 a8
            obtain ⟨lo, hi', rfl, rfl, hsr, hbl⟩ := hrel
            have hk3 := Bel.trans hk2 hbl
            obtain ⟨_, b1, b2, b3, b4, b5, b6, b7, b8⟩ := HS.out _ hk3
            have HD3 := hide (HD2.out.below hbl)
            have HQ3 := hide (HQ2.out.below hbl)
            have hhi2 := hsr.2.2
            have hlo2 : lo ≤ hi' := Nat.le_trans hsr.1 hsr.2.1
            have Hsr3 := hide hsr
            clear hsr
            by_cases hlt : lo < hi'
            · obtain ⟨mid, hmid⟩ : ∃ mid : Nat, ((lo : Int) + (hi' : Int) + 1) / 2 = (mid : Int) := ⟨(lo + hi' + 1) / 2, by omega⟩
              have hm1 : lo < mid := by omega
              have hm2 : mid ≤ hi' := by omega
              have HO := hide (fun w => Of_any (mid : Int) w (by omega) (by omega))
              have hdg := run_digits
              by_cases hcm : mid * val lb ≤ val lr2
              · have hdc : decide (cmpN (mid * val lb) (val lr2) ≤ 0) = true := by rw [decide_eq_true_iff]; unfold cmpN; split <;> (try split) <;> omega
                have Hs2 := hide (Hsr3.out.yes HvB.out hcm)
                clear hcm
                go_wp2_with fail
                rw [hmid]
                go_region_held3 (fun w' => w'.cell? ⟨w.heap.size, 0, none⟩ = some (.bool s) ∧ w'.cell? ⟨w.heap.size, 1, none⟩ = some (.slice (some ad) n c) ∧ w'.cell? ⟨w.heap.size + 1, 0, none⟩ = some (.bool s1) ∧ w'.cell? ⟨w.heap.size + 1, 1, none⟩ = some (.slice A' n' c'))
                  ((refine H4.out _ ?_; repeat (first | assumption | refine Bel.drew ?_)))
                  (first
                    | (go_at_call 11; refine (HO.out _).mono ?_; rintro e w4 ⟨s4, A4, n4, c4, rfl, hB, hb⟩; have hk4 : Bel (Three w s s1 (some ad) A' n n' c c') w4 := Bel.trans (by repeat (first | assumption | refine Bel.drew ?_)) hb; have hl4 : Bel W2 w4 := Bel.trans (by repeat (first | assumption | refine Bel.drew ?_)) hb; have hB4 := hide hB; have HD4 := hide (DW.below (DW.drew HD3.out) hb); clear hb hB)
                    | (go_at_call 56; refine (Mul_any 5 100000 (by omega) (by omega) _ _ _ _ _ _ _ _ (mid : Int) (val lb : Int) _ hB4.out (BV.of_dw (HDb.out _ hk4) Hdb.out Hnb.out hn')).mono ?_; rintro e w5 ⟨s5, A5, n5, c5, rfl, hB, hb⟩; have hk5 : Bel (Three w s s1 (some ad) A' n n' c c') w5 := Bel.trans hk4 hb; have hl5 : Bel W2 w5 := Bel.trans hl4 hb; have hN5 := hide (BV.nonneg hB); have HD5 := hide (DW.below HD4.out hb); clear hb hB)
                    | (go_at_call 78; refine (less_nw 100006 n2 _ _ _ _ _ _ (mid * val lb) (val lr2) _ hN5.out ⟨lr2, HD5.out, Hdr2.out, Hnr2.out, rfl, Nat.le_refl _⟩).mono ?_; rintro e w' ⟨rfl, rfl⟩))
                go_wp2_with fail
                go_roundw
                case rel => exact ⟨mid, hi', rfl, rfl, Hs2.out, hl5⟩
                case measure => simp [intOf]; omega
              · have hdc : decide (cmpN (mid * val lb) (val lr2) ≤ 0) = false := by rw [decide_eq_false_iff_not]; unfold cmpN; split <;> (try split) <;> omega
                have Hs2 := hide (Hsr3.out.no HvB.out (by omega) (by omega) hm2)
                have hm0 : 1 ≤ mid := by omega
                clear hcm
                go_wp2_with fail
                rw [hmid]
                go_region_held3 (fun w' => w'.cell? ⟨w.heap.size, 0, none⟩ = some (.bool s) ∧ w'.cell? ⟨w.heap.size, 1, none⟩ = some (.slice (some ad) n c) ∧ w'.cell? ⟨w.heap.size + 1, 0, none⟩ = some (.bool s1) ∧ w'.cell? ⟨w.heap.size + 1, 1, none⟩ = some (.slice A' n' c'))
                  ((refine H4.out _ ?_; repeat (first | assumption | refine Bel.drew ?_)))
                  (first
                    | (go_at_call 11; refine (HO.out _).mono ?_; rintro e w4 ⟨s4, A4, n4, c4, rfl, hB, hb⟩; have hk4 : Bel (Three w s s1 (some ad) A' n n' c c') w4 := Bel.trans (by repeat (first | assumption | refine Bel.drew ?_)) hb; have hl4 : Bel W2 w4 := Bel.trans (by repeat (first | assumption | refine Bel.drew ?_)) hb; have hB4 := hide hB; have HD4 := hide (DW.below (DW.drew HD3.out) hb); clear hb hB)
                    | (go_at_call 56; refine (Mul_any 5 100000 (by omega) (by omega) _ _ _ _ _ _ _ _ (mid : Int) (val lb : Int) _ hB4.out (BV.of_dw (HDb.out _ hk4) Hdb.out Hnb.out hn')).mono ?_; rintro e w5 ⟨s5, A5, n5, c5, rfl, hB, hb⟩; have hk5 : Bel (Three w s s1 (some ad) A' n n' c c') w5 := Bel.trans hk4 hb; have hl5 : Bel W2 w5 := Bel.trans hl4 hb; have hN5 := hide (BV.nonneg hB); have HD5 := hide (DW.below HD4.out hb); clear hb hB)
                    | (go_at_call 78; refine (less_nw 100006 n2 _ _ _ _ _ _ (mid * val lb) (val lr2) _ hN5.out ⟨lr2, HD5.out, Hdr2.out, Hnr2.out, rfl, Nat.le_refl _⟩).mono ?_; rintro e w' ⟨rfl, rfl⟩))
                go_wp2_with fail
                go_roundw
                case rel => exact ⟨lo, mid - 1, rfl, by go_num, Hs2.out, hl5⟩
                case measure => simp [intOf]; omega
            · have hge : hi' ≤ lo := by omega
              have hQ : val lr2 / val lb = lo := (Hsr3.out.done hge).symm
              have HdQ : lo ≤ 32767 := by omega
              have HQq := Lib.hid hQ
              have HO := hide (fun w => Of_any (lo : Int) w (by omega) (by omega))
              have hdg := run_digits
              have HQB := hide (show lo * val lb ≤ val lr2 by rw [← hQ]; exact Nat.div_mul_le_self _ _)
              have hn2b := nr_le
              clear hQ hlt
              go_wp2_with fail
              go_region_held3 (fun w' => w'.cell? ⟨w.heap.size, 0, none⟩ = some (.bool s) ∧ w'.cell? ⟨w.heap.size, 1, none⟩ = some (.slice (some ad) n c) ∧ w'.cell? ⟨w.heap.size + 1, 0, none⟩ = some (.bool s1) ∧ w'.cell? ⟨w.heap.size + 1, 1, none⟩ = some (.slice A' n' c'))
                ((refine H4.out _ ?_; repeat (first | assumption | refine Bel.drew ?_)))
                (first
                  | (go_at_call 11; refine (HO.out _).mono ?_; rintro e w4 ⟨s4, A4, n4, c4, rfl, hB, hb⟩; have hk4 : Bel (Three w s s1 (some ad) A' n n' c c') w4 := Bel.trans (by repeat (first | assumption | refine Bel.drew ?_)) hb; have hB4 := hide hB; have HD4 := hide (DW.below (DW.drew HD3.out) hb); have HQ4 := hide (DW.below (DW.drew HQ3.out) hb); clear hb hB)
                  | (go_at_call 56; refine (Mul_any 5 100000 (by omega) (by omega) _ _ _ _ _ _ _ _ (lo : Int) (val lb : Int) _ hB4.out (BV.of_dw (HDb.out _ hk4) Hdb.out Hnb.out hn')).mono ?_; rintro e w5 ⟨s5, A5, n5, c5, rfl, hB, hb⟩; have hk5 : Bel (Three w s s1 (some ad) A' n n' c c') w5 := Bel.trans hk4 hb; have hN5 := hide (BV.nonneg hB); have HD5 := hide (DW.below HD4.out hb); have HQ5 := hide (DW.below HQ4.out hb); clear hb hB)
                  | (go_at_call 79; refine (rest_nw 100002 100006 (by omega) _ _ _ _ _ _ (val lr2) (lo * val lb) _ ⟨lr2, HD5.out, Hdr2.out, Hnr2.out, rfl, hn2b⟩ hN5.out HQB.out).mono ?_; rintro e w6 ⟨A6, n6, c6, rfl, hN, hb⟩; have hk6 : Bel (Three w s s1 (some ad) A' n n' c c') w6 := Bel.trans hk5 hb; have hN6 := hide hN; have HQ6 := hide (DW.below HQ5.out hb); clear hb hN))
              have hq1 := HQ6.out.2.1
              have hq2 := HQ6.out.2.2.1
              have hrd2 := HQ6.out.2.2.2.1.alloc (Nat.le_refl _) (.cells #[.int .i64 (lo : Nat)] 3)
              go_wp2_with (first
                | (at_builtin; refine wpList_append_any _ rfl (.tmp 114) (.tmp 115) _ rfl w6.heap.size 3 i0 (.int .i64 0) 1 8 Try.underlying22 hi hz0 hz1 hz2 rfl (by decide) (.slice (some ⟨w6.heap.size, 0, none⟩) 1 1) 1 [.int .i64 (lo : Nat)] rfl (own_one w6 _) _ Aq mq cq (dv lq) rfl hrd2 (dv_one lq) ?e3 ?e4 ?e5 ?_))
              case e3 => unfold maxLen; omega
              case e4 => omega
              case e5 => simp
              · intro v7 w7 hown7 hg7 _
                obtain ⟨A7, c7, rfl, hD7, hb7⟩ := front_row hown7 hg7
                have HR := hide (OutRel.step hk HL.out HL'.out Hdb.out HvB.out Hval.out Hvr2.out HQq.out HdQ hnq Hdq.out hD7 hN6.out hb7 hk6)
                clear hown7 hg7 hD7 hrd2 hb7
                go_wp2_with fail
                go_roundw
                case rel => exact HR.out
                case measure => simp [intOf]
      · have hk00 : k = 0 := by omega
        subst hk00
        have hxq := floor_parts (HL.out) hval hRB
        have HDq := hide hDq
        have Hdq := hide hdq
        have Hn0 := hide (hNr.zero)
        have Hxq := hide hxq
        have hmq : mq ≤ n := by omega
        clear hDq hdq hval hRB hxq hNr hDa
        by_cases hss : (s == s1) = true
        · have HZ := Lib.hid ((((fdiv_cases (x := val la) HvB.out s s1).1 (by simpa using hss)).symm.trans hz.out))
          rw [Hxq.out.1] at HZ
          go_wp2_with fail
          go_region_held3 (fun w' => w'.cell? ⟨w.heap.size, 0, none⟩ = some (.bool s) ∧ w'.cell? ⟨w.heap.size, 1, none⟩ = some (.slice A n c) ∧ w'.cell? ⟨w.heap.size + 1, 0, none⟩ = some (.bool s1) ∧ w'.cell? ⟨w.heap.size + 1, 1, none⟩ = some (.slice A' n' c'))
            (first | (refine H4.out _ ?_; first | assumption | (refine Bel.drew ?_; assumption)) | (refine H5.out _ _ _ ?_; assumption))
            (first
              | (go_at_call 77; refine (trim_any _ _ _ lq _ (DW.drew HDq.out)).mono ?_; intro e w1 ht; have hT := Made.of_trim (N := n + 1) ht (DW.drew HDq.out) Hdq.out rfl (by omega) (Below.refl _ _); clear ht; obtain ⟨A1, n1, c1, rfl, hN1, hb1⟩ := hT; have hk1 : Bel (Three w s s1 A A' n n' c c') w1 := Bel.trans (by repeat (first | assumption | refine Bel.drew ?_)) hb1)
              | (go_at_call 80; refine (made_any (n + 1) false _ _ _ _ _ (by assumption)).mono ?_; rintro e w2 ⟨s2, A2, n2, c2, rfl, hB2, hb2⟩; have hk2 : Bel (Three w s s1 A A' n n' c c') w2 := Bel.trans (by repeat (first | assumption | refine Bel.drew ?_)) hb2; obtain ⟨_, r1, r2, r3, r4, r5, r6, r7, r8⟩ := HS.out _ hk2))
          replace hB2 := hB2.more (Nat.le_succ (n + 1))
          rw [if_neg (by decide), HZ.out] at hB2
          have HB2 := hide hB2
          have HK2 := hide hk2
          clear hB2 hk2
          go_wp2_with fail
          refine bodyPost_ret (v := .agg #[.bool s2, .slice A2 n2 c2]) (by simp [results, Try.results51, go_sem, r5, r6]) rfl ?_
          exact MadeB.fin (HBw.out _ HK2.out) (by omega) (HX.out _ HK2.out) HB2.out _ _
        · have hss2 : (s == s1) = false := by simpa using hss
          clear hss
          rcases Nat.eq_zero_or_pos nr with h0 | h0
          · have HZ := Lib.hid ((((fdiv_cases (x := val la) HvB.out s s1).2.1 (by simpa using hss2) (by rw [Hxq.out.2]; exact Hn0.out.2 h0)).symm.trans hz.out))
            rw [Hxq.out.1] at HZ
            subst h0
            go_wp2_with fail
            go_region_held3 (fun w' => w'.cell? ⟨w.heap.size, 0, none⟩ = some (.bool s) ∧ w'.cell? ⟨w.heap.size, 1, none⟩ = some (.slice A n c) ∧ w'.cell? ⟨w.heap.size + 1, 0, none⟩ = some (.bool s1) ∧ w'.cell? ⟨w.heap.size + 1, 1, none⟩ = some (.slice A' n' c'))
              (first | (refine H4.out _ ?_; first | assumption | (refine Bel.drew ?_; assumption)) | (refine H5.out _ _ _ ?_; assumption))
              (first
                | (go_at_call 77; refine (trim_any _ _ _ lq _ (DW.drew HDq.out)).mono ?_; intro e w1 ht; have hT := Made.of_trim (N := n + 1) ht (DW.drew HDq.out) Hdq.out rfl (by omega) (Below.refl _ _); clear ht; obtain ⟨A1, n1, c1, rfl, hN1, hb1⟩ := hT; have hk1 : Bel (Three w s s1 A A' n n' c c') w1 := Bel.trans (by repeat (first | assumption | refine Bel.drew ?_)) hb1)
                | (go_at_call 80; refine (made_any (n + 1) true _ _ _ _ _ (by assumption)).mono ?_; rintro e w2 ⟨s2, A2, n2, c2, rfl, hB2, hb2⟩; have hk2 : Bel (Three w s s1 A A' n n' c c') w2 := Bel.trans (by repeat (first | assumption | refine Bel.drew ?_)) hb2; obtain ⟨_, r1, r2, r3, r4, r5, r6, r7, r8⟩ := HS.out _ hk2))
            replace hB2 := hB2.more (Nat.le_succ (n + 1))
            (first | rw [if_pos trivial] at hB2 | rw [if_pos rfl] at hB2); rw [HZ.out] at hB2
            have HB2 := hide hB2
            have HK2 := hide hk2
            clear hB2 hk2
            go_wp2_with fail
            refine bodyPost_ret (v := .agg #[.bool s2, .slice A2 n2 c2]) (by simp [results, Try.results51, go_sem, r5, r6]) rfl ?_
            exact MadeB.fin (HBw.out _ HK2.out) (by omega) (HX.out _ HK2.out) HB2.out _ _
          · have HZ := Lib.hid ((((fdiv_cases (x := val la) HvB.out s s1).2.2 (by simpa using hss2) (by rw [Hxq.out.2]; intro h; have := Hn0.out.1 h; omega)).symm.trans hz.out))
            rw [Hxq.out.1] at HZ
            have hne : ((nr : Int) == 0) = false := by rw [beq_eq_false_iff_ne]; omega
            go_wp2_with fail
            refine (trim_any _ _ _ lq _ HDq.out).mono ?_
            intro e w1 ht
            have hT := Made.of_trim (N := n + 1) ht HDq.out Hdq.out rfl (by omega) (Below.refl _ _)
            clear ht
            obtain ⟨A1, n1, c1, rfl, hN1, hb1⟩ := hT
            have hk1 := Bel.trans hbel hb1
            have HN1 := hide hN1
            clear hb1 hN1
            go_wp2_with fail
            refine (sum_nw (n + 1) (by omega) A1 (some ⟨w1.heap.size, 0, none⟩) n1 1 c1 1 (val lq) 1 (w1.alloc (.cells #[.int .i64 1] 3)) (HN1.out.below (below_alloc w1 _)) ((NW.one w1 1 (by omega) (by omega)).more (by omega))).mono ?_
            rintro e w3 ⟨A3, n3, c3, rfl, hN3, hb3⟩
            have hk3 : Bel (Three w s s1 A A' n n' c c') w3 := Bel.trans hk1 ((below_alloc w1 _).trans (hb3.mono (by simp)))
            have HN3 := hide hN3
            clear hb3 hN3
            go_wp2_with fail
            refine (made_any (n + 2) true _ _ _ _ _ HN3.out).mono ?_
            rintro e w2 ⟨s2, A2, n2, c2, rfl, hB2, hb2⟩
            have hk2 : Bel (Three w s s1 A A' n n' c c') w2 := Bel.trans hk3 hb2
            obtain ⟨_, r1, r2, r3, r4, r5, r6, r7, r8⟩ := HS.out _ hk2
            (first | rw [if_pos trivial] at hB2 | rw [if_pos rfl] at hB2); rw [HZ.out] at hB2
            have HB2 := hide hB2
            have HK2 := hide hk2
            clear hB2 hk2 hb2
            go_wp2_with fail
            refine bodyPost_ret (v := .agg #[.bool s2, .slice A2 n2 c2]) (by simp [results, Try.results51, go_sem, r5, r6]) rfl ?_
            exact MadeB.fin (HBw.out _ HK2.out) (by omega) (HX.out _ HK2.out) HB2.out _ _
end Go.Proofs.Ytehkccogbgjcaaa
