/-
NearAt: the pixel that is nearest to any place, of any image and border, or why it cannot be told; of one colour it is that. For every image, border and place.
-/
import Derived.Test.YtbogckpnajjlmaaPost2
import Derived.Test.YtbogckpnajjlmaaImgKit
import Derived.Test.YtbogckpnajjlmaaBorKit
import Derived.Test.YtbogckpnajjlmaaI2Kit
import Derived.Test.YtbogckpnajjlmaaNaM
namespace Go.Proofs.Ytbogckpnajjlmaa
open Go.ChangeShapes Go.WideShapes Go.ChangeAt Go.RowKit Go.Joins

set_option maxRecDepth 100000 in
theorem nearAt_lifted (os : Os) (started : os.Started) (H : Type) (enc : TypeId × Value → H) :
    ReturnsInHanded {} Try.checked os 7 .any (Rows.nearAtSpec.pre6 enc Try.prog Try.f7 Rows.nearAtRow.domain false) (Rows.nearAtSpec.post enc Try.prog Try.f7 false true false false) := by
  refine returnsInHanded_of_change (C := Try.checked) own started (by kernel_rfl) Try.func7
    (ChangeSpec.witness6 (enc := enc) (C := Try.checked) false ⟨#[], #[.agg #[.int .i64 0, .int .i64 0, .int .i64 0, .slice none 0 0], .agg #[.int .i64 0, .int .u8 0, .int .u8 0, .int .u8 0, .int .u8 0], .agg #[.int .i64 0, .int .i64 0]], []⟩ 8 (by kernel_rfl) (by kernel_rfl) (by kernel_rfl) (by kernel_rfl)) ?_
  intro W base args ds gs before hval0 hW _ _
  have hval : ∀ (j : Nat) t v, Try.f7.params[j]? = some t → args[j]? = some v → Value.okWide Try.prog W .any base t v := hval0
  have hW' := hW
  obtain ⟨p, q, hA0, hV, rfl, _, _⟩ := hW
  have hA : DataW.TrodAll enc Try.prog W 0 (fun _ => true) true Try.f7.params.toList args.toList ds p := hA0
  rw [Try.params7] at hA hval
  obtain ⟨v0, vs0, d0, ds0, p0, q0, hargs, rfl, rfl, t0, r0⟩ := trodAll_cons hA
  obtain ⟨v1, vs1, d1, ds1, p1, q1, rfl, rfl, rfl, t1, r1⟩ := trodAll_cons r0
  obtain ⟨v2, vs2, d2, ds2, p2, q2, rfl, rfl, rfl, t2, r2⟩ := trodAll_cons r1
  obtain ⟨rfl, rfl, rfl⟩ := trodAll_nil r2
  obtain rfl : args = #[v0, v1, v2] := by cases args; simp_all
  obtain ⟨rfl, rfl⟩ := trodVars_none hV
  obtain ⟨x0, y0, c0, A0, n0, cap0, xs0, rfl, hB0, wx0, wy0, wc0⟩ := open_image (hval 0 24 v0 rfl rfl) t0
  obtain ⟨md1, ka1, kb1, kc1, kd1, rfl, hK1⟩ := open_border (hval 1 41 v1 rfl rfl) t1
  obtain ⟨x2, y2, rfl, wx2, wy2⟩ := open_i64s2 (hval 2 50 v2 rfl rfl) t2
  clear hA0 hval0 hval hA
  refine (NearAt_walk x0 y0 c0 A0 n0 cap0 xs0 md1 ka1 kb1 kc1 kd1 x2 y2 W hB0 hK1).mono fun e W' ⟨he, hg⟩ => ?_
  subst he
  exact ⟨_, rfl, post_law laid (by kernel_rfl) hW' rfl rfl rfl (fun _ _ _ => (trodAll_cons_mk (shut_bool Try.underlying4 _) trodAll_mk0))
    hg (ok_one (by kernel_rfl) rfl (okWide_bool_mk Try.underlying4 _))⟩

theorem NearAt_holds : Rows.NearAtSaid :=
  OpenClaim.holds_of_wide 7 Try.f7 rfl rfl rfl rfl rfl rfl rfl ⟨rfl, rfl, rfl, rfl, rfl⟩ rfl rfl rfl rfl rfl (by kernel_rfl) Try.func7 (by kernel_rfl)
    (of_decide_eq_true (by kernel_rfl)) (by unfold Func.isWrapper; first | (rw [if_pos (by decide +kernel)]; kernel_rfl) | (rw [if_neg (by decide +kernel)]; exact ⟨rfl, rfl⟩))
    (fun os started H enc _ => nearAt_lifted os started H enc)
#print axioms NearAt_holds
end Go.Proofs.Ytbogckpnajjlmaa
