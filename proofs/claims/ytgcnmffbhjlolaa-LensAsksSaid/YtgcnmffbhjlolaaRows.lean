/-
  No cell of these rows narrows 'for every input' (looked for: loops, veiled, ifaces, maps, wideKeys, modest, calm, conditions, laid).
  DERIVED. THE GIVEN ROWS OF THIS SEAT. 4 by the template 'for every input the law returns true; each argument reads behind the call as it read before'; 0 by the template 'total and deterministic' (their statements: YtgcnmffbhjlolaaTotals.lean).
  GIVEN WITH THE SEED: the statements are not yours to turn. If you find one false, say at which input.
  Laid BY PROGRAM, IN A SANDBOX (cutbox-rows.mjs): the forced cells as the released guide's own fill.sh prints them over the translation 1ef3bdd7647c6ef1… (all of the seat's roots in one cut). By AI agents, Wed Nov 11 2026. No macro, syntax, notation, axiom, sorry.
-/
import Derived.Test.YtgcnmffbhjlolaaChecked
import GoSem.Claim
import GoSem.ClaimJoined
import GoSem.ClaimMapViews
import Derived.JoinedTies
import Derived.KernelRfl
namespace Go.Proofs.Ytgcnmffbhjlolaa
/- THE CELL 'sum', in the pinned program and in every row, IS THE sha256 OF THE DUMP (.gsa) THAT YtgcnmffbhjlolaaProg.lean LOADS. Nothing in Lean hashes anything: it is a label: what it is worth is what the hold of that sum in a sandbox is worth. -/
noncomputable def Try.pinned : Pinned := { name := "ytgcnmffbhjlolaa", sum := "1ef3bdd7647c6ef15270c4a2434a73dca34e06a09c44b5f94a681d6daaa77cd8", checked := Try.checked }
namespace Rows
def none {H : Type} : Left H := { results := [], args := [] }

/-- 'anamorphlaw20.LensAsks': WHATEVER THE INPUT: true; the input reads as it did. -/
def lensAsksSpec : ChangeSpec := { name := "lensAsks", fn := fun _ => fun
  | [d1, d2, d3] => { results := [.lit (.bool true)], args := [d1, d2, d3] }
  | _ => none }
def lensAsksRow : OpenClaim := { program := "ytgcnmffbhjlolaa", sum := "1ef3bdd7647c6ef15270c4a2434a73dca34e06a09c44b5f94a681d6daaa77cd8", func := "anamorph/anamorphlaw20.LensAsks", spec := "lensAsks", apart := false }
def LensAsksSaid : Prop := lensAsksRow.holds Try.pinned (OpenSpec.ofChange lensAsksSpec)

/-- ITS FALSE NEIGHBOUR: 'it returns false'. Refute it at one input. -/
def lensAsksWrong : ChangeSpec := { name := "lensAsks", fn := fun _ => fun
  | [d1, d2, d3] => { results := [.lit (.bool false)], args := [d1, d2, d3] }
  | _ => none }
def LensAsksWrongFalsely : Prop := lensAsksRow.holds Try.pinned (OpenSpec.ofChange lensAsksWrong)

/-- 'anamorphlaw20.LensNear': WHATEVER THE INPUT: true; the input reads as it did. -/
def lensNearSpec : ChangeSpec := { name := "lensNear", fn := fun _ => fun
  | [d1, d2, d3] => { results := [.lit (.bool true)], args := [d1, d2, d3] }
  | _ => none }
def lensNearRow : OpenClaim := { program := "ytgcnmffbhjlolaa", sum := "1ef3bdd7647c6ef15270c4a2434a73dca34e06a09c44b5f94a681d6daaa77cd8", func := "anamorph/anamorphlaw20.LensNear", spec := "lensNear", apart := false }
def LensNearSaid : Prop := lensNearRow.holds Try.pinned (OpenSpec.ofChange lensNearSpec)

/-- ITS FALSE NEIGHBOUR: 'it returns false'. Refute it at one input. -/
def lensNearWrong : ChangeSpec := { name := "lensNear", fn := fun _ => fun
  | [d1, d2, d3] => { results := [.lit (.bool false)], args := [d1, d2, d3] }
  | _ => none }
def LensNearWrongFalsely : Prop := lensNearRow.holds Try.pinned (OpenSpec.ofChange lensNearWrong)

/-- 'anamorphlaw20.LensIn': WHATEVER THE INPUT: true; the input reads as it did. -/
def lensInSpec : ChangeSpec := { name := "lensIn", fn := fun _ => fun
  | [d1, d2, d3] => { results := [.lit (.bool true)], args := [d1, d2, d3] }
  | _ => none }
def lensInRow : OpenClaim := { program := "ytgcnmffbhjlolaa", sum := "1ef3bdd7647c6ef15270c4a2434a73dca34e06a09c44b5f94a681d6daaa77cd8", func := "anamorph/anamorphlaw20.LensIn", spec := "lensIn", apart := false }
def LensInSaid : Prop := lensInRow.holds Try.pinned (OpenSpec.ofChange lensInSpec)

/-- ITS FALSE NEIGHBOUR: 'it returns false'. Refute it at one input. -/
def lensInWrong : ChangeSpec := { name := "lensIn", fn := fun _ => fun
  | [d1, d2, d3] => { results := [.lit (.bool false)], args := [d1, d2, d3] }
  | _ => none }
def LensInWrongFalsely : Prop := lensInRow.holds Try.pinned (OpenSpec.ofChange lensInWrong)

/-- 'anamorphlaw20.LensPlain': WHATEVER THE INPUT: true; the input reads as it did. -/
def lensPlainSpec : ChangeSpec := { name := "lensPlain", fn := fun _ => fun
  | [d1, d2, d3] => { results := [.lit (.bool true)], args := [d1, d2, d3] }
  | _ => none }
def lensPlainRow : OpenClaim := { program := "ytgcnmffbhjlolaa", sum := "1ef3bdd7647c6ef15270c4a2434a73dca34e06a09c44b5f94a681d6daaa77cd8", func := "anamorph/anamorphlaw20.LensPlain", spec := "lensPlain", apart := false }
def LensPlainSaid : Prop := lensPlainRow.holds Try.pinned (OpenSpec.ofChange lensPlainSpec)

/-- ITS FALSE NEIGHBOUR: 'it returns false'. Refute it at one input. -/
def lensPlainWrong : ChangeSpec := { name := "lensPlain", fn := fun _ => fun
  | [d1, d2, d3] => { results := [.lit (.bool false)], args := [d1, d2, d3] }
  | _ => none }
def LensPlainWrongFalsely : Prop := lensPlainRow.holds Try.pinned (OpenSpec.ofChange lensPlainWrong)

/- THE SECOND FORM. 'bulk': how many values and letters a reading holds, each counted each time it is reached (what is shared counts as often as it is met; a slice's spare places count too). A statement '..UptoSaid' is the law's where the arguments, and the package variables that the reading takes, are together of bulk at most 1048576: NARROWER than '..Said'. Prove '..Said' where nothing that the law and all that it calls make is longer than what came in: it says more and counts as full. Else prove '..UptoSaid'. A law counts once. -/
mutual
def uptoBulk {H : Type} : DataW H → Nat
  | .lit (.string bytes) => bytes.length + 1
  | .lit _ => 1
  | .nil => 1
  | .ptr d => uptoBulk d + 1
  | .slice elems spare => uptoBulkAll elems + uptoBulkAll spare + 1
  | .agg parts => uptoBulkAll parts + 1
  | .iface _ d => uptoBulk d + 1
  | .map entries => uptoBulkEntries entries + 1
  | .held _ => 1
def uptoBulkAll {H : Type} : List (DataW H) → Nat
  | [] => 0
  | d :: r => uptoBulk d + uptoBulkAll r
def uptoBulkEntries {H : Type} : List (Lit × DataW H) → Nat
  | [] => 0
  | x :: r => uptoBulkEntry x + uptoBulkEntries r
def uptoBulkEntry {H : Type} : Lit × DataW H → Nat
  | (.string bytes, d) => bytes.length + uptoBulk d + 1
  | (_, d) => uptoBulk d + 1
 end
def uptoSmall : (H : Type) → List (DataW H) → Bool := fun _ ds => decide (uptoBulkAll ds ≤ 1048576)
def OpenSpec.upto (s : _root_.Go.ChangeSpec) : _root_.Go.OpenSpec := { _root_.Go.OpenSpec.ofChange s with cond := some uptoSmall }

/-- 'anamorphlaw20.LensAsks', WHERE WHAT IT READS IS OF BULK AT MOST 1048576: true; the input reads as it did. -/
def lensAsksUptoRow : OpenClaim := { program := "ytgcnmffbhjlolaa", sum := "1ef3bdd7647c6ef15270c4a2434a73dca34e06a09c44b5f94a681d6daaa77cd8", func := "anamorph/anamorphlaw20.LensAsks", spec := "lensAsks", apart := false, narrowed := true }
def LensAsksUptoSaid : Prop := lensAsksUptoRow.holds Try.pinned (OpenSpec.upto lensAsksSpec)

/-- 'anamorphlaw20.LensNear', WHERE WHAT IT READS IS OF BULK AT MOST 1048576: true; the input reads as it did. -/
def lensNearUptoRow : OpenClaim := { program := "ytgcnmffbhjlolaa", sum := "1ef3bdd7647c6ef15270c4a2434a73dca34e06a09c44b5f94a681d6daaa77cd8", func := "anamorph/anamorphlaw20.LensNear", spec := "lensNear", apart := false, narrowed := true }
def LensNearUptoSaid : Prop := lensNearUptoRow.holds Try.pinned (OpenSpec.upto lensNearSpec)

/-- 'anamorphlaw20.LensIn', WHERE WHAT IT READS IS OF BULK AT MOST 1048576: true; the input reads as it did. -/
def lensInUptoRow : OpenClaim := { program := "ytgcnmffbhjlolaa", sum := "1ef3bdd7647c6ef15270c4a2434a73dca34e06a09c44b5f94a681d6daaa77cd8", func := "anamorph/anamorphlaw20.LensIn", spec := "lensIn", apart := false, narrowed := true }
def LensInUptoSaid : Prop := lensInUptoRow.holds Try.pinned (OpenSpec.upto lensInSpec)

/-- 'anamorphlaw20.LensPlain', WHERE WHAT IT READS IS OF BULK AT MOST 1048576: true; the input reads as it did. -/
def lensPlainUptoRow : OpenClaim := { program := "ytgcnmffbhjlolaa", sum := "1ef3bdd7647c6ef15270c4a2434a73dca34e06a09c44b5f94a681d6daaa77cd8", func := "anamorph/anamorphlaw20.LensPlain", spec := "lensPlain", apart := false, narrowed := true }
def LensPlainUptoSaid : Prop := lensPlainUptoRow.holds Try.pinned (OpenSpec.upto lensPlainSpec)

end Rows
end Go.Proofs.Ytgcnmffbhjlolaa
