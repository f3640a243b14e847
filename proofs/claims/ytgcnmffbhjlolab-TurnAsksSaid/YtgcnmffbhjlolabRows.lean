/-
  No cell of these rows narrows 'for every input' (looked for: loops, veiled, ifaces, maps, wideKeys, modest, calm, conditions, laid).
  DERIVED. THE GIVEN ROWS OF THIS SEAT. 7 by the template 'for every input the law returns true; each argument reads behind the call as it read before'; 0 by the template 'total and deterministic' (their statements: YtgcnmffbhjlolabTotals.lean).
  GIVEN WITH THE SEED: the statements are not yours to turn. If you find one false, say at which input.
  Laid BY PROGRAM, IN A SANDBOX (cutbox-rows.mjs): the forced cells as the released guide's own fill.sh prints them over the translation 7c05afa23007eb77… (all of the seat's roots in one cut). By AI agents, Wed Nov 11 2026. No macro, syntax, notation, axiom, sorry.
-/
import Derived.Test.YtgcnmffbhjlolabChecked
import GoSem.Claim
import GoSem.ClaimJoined
import GoSem.ClaimMapViews
import Derived.JoinedTies
import Derived.KernelRfl
namespace Go.Proofs.Ytgcnmffbhjlolab
/- THE CELL 'sum', in the pinned program and in every row, IS THE sha256 OF THE DUMP (.gsa) THAT YtgcnmffbhjlolabProg.lean LOADS. Nothing in Lean hashes anything: it is a label: what it is worth is what the hold of that sum in a sandbox is worth. -/
noncomputable def Try.pinned : Pinned := { name := "ytgcnmffbhjlolab", sum := "7c05afa23007eb776828a395b67f3c13cef61331ff9586376a52faeafc7ba883", checked := Try.checked }
namespace Rows
def none {H : Type} : Left H := { results := [], args := [] }

/-- 'anamorphlaw21.MeshAsks': WHATEVER THE INPUT: true; the input reads as it did. -/
def meshAsksSpec : ChangeSpec := { name := "meshAsks", fn := fun _ => fun
  | [d1, d2, d3] => { results := [.lit (.bool true)], args := [d1, d2, d3] }
  | _ => none }
def meshAsksRow : OpenClaim := { program := "ytgcnmffbhjlolab", sum := "7c05afa23007eb776828a395b67f3c13cef61331ff9586376a52faeafc7ba883", func := "anamorph/anamorphlaw21.MeshAsks", spec := "meshAsks", unfollowed := true, recurses := true, apart := false }
def MeshAsksSaid : Prop := meshAsksRow.holds Try.pinned (OpenSpec.ofChange meshAsksSpec)

/-- ITS FALSE NEIGHBOUR: 'it returns false'. Refute it at one input. -/
def meshAsksWrong : ChangeSpec := { name := "meshAsks", fn := fun _ => fun
  | [d1, d2, d3] => { results := [.lit (.bool false)], args := [d1, d2, d3] }
  | _ => none }
def MeshAsksWrongFalsely : Prop := meshAsksRow.holds Try.pinned (OpenSpec.ofChange meshAsksWrong)

/-- 'anamorphlaw21.MeshKnots': WHATEVER THE INPUT: true; the input reads as it did. -/
def meshKnotsSpec : ChangeSpec := { name := "meshKnots", fn := fun _ => fun
  | [d1, d2, d3] => { results := [.lit (.bool true)], args := [d1, d2, d3] }
  | _ => none }
def meshKnotsRow : OpenClaim := { program := "ytgcnmffbhjlolab", sum := "7c05afa23007eb776828a395b67f3c13cef61331ff9586376a52faeafc7ba883", func := "anamorph/anamorphlaw21.MeshKnots", spec := "meshKnots", unfollowed := true, recurses := true, apart := false }
def MeshKnotsSaid : Prop := meshKnotsRow.holds Try.pinned (OpenSpec.ofChange meshKnotsSpec)

/-- ITS FALSE NEIGHBOUR: 'it returns false'. Refute it at one input. -/
def meshKnotsWrong : ChangeSpec := { name := "meshKnots", fn := fun _ => fun
  | [d1, d2, d3] => { results := [.lit (.bool false)], args := [d1, d2, d3] }
  | _ => none }
def MeshKnotsWrongFalsely : Prop := meshKnotsRow.holds Try.pinned (OpenSpec.ofChange meshKnotsWrong)

/-- 'anamorphlaw21.MeshHulls': WHATEVER THE INPUT: true; the input reads as it did. -/
def meshHullsSpec : ChangeSpec := { name := "meshHulls", fn := fun _ => fun
  | [d1, d2, d3] => { results := [.lit (.bool true)], args := [d1, d2, d3] }
  | _ => none }
def meshHullsRow : OpenClaim := { program := "ytgcnmffbhjlolab", sum := "7c05afa23007eb776828a395b67f3c13cef61331ff9586376a52faeafc7ba883", func := "anamorph/anamorphlaw21.MeshHulls", spec := "meshHulls", unfollowed := true, recurses := true, apart := false }
def MeshHullsSaid : Prop := meshHullsRow.holds Try.pinned (OpenSpec.ofChange meshHullsSpec)

/-- ITS FALSE NEIGHBOUR: 'it returns false'. Refute it at one input. -/
def meshHullsWrong : ChangeSpec := { name := "meshHulls", fn := fun _ => fun
  | [d1, d2, d3] => { results := [.lit (.bool false)], args := [d1, d2, d3] }
  | _ => none }
def MeshHullsWrongFalsely : Prop := meshHullsRow.holds Try.pinned (OpenSpec.ofChange meshHullsWrong)

/-- 'anamorphlaw21.MeshPlain': WHATEVER THE INPUT: true; the input reads as it did. -/
def meshPlainSpec : ChangeSpec := { name := "meshPlain", fn := fun _ => fun
  | [d1, d2] => { results := [.lit (.bool true)], args := [d1, d2] }
  | _ => none }
def meshPlainRow : OpenClaim := { program := "ytgcnmffbhjlolab", sum := "7c05afa23007eb776828a395b67f3c13cef61331ff9586376a52faeafc7ba883", func := "anamorph/anamorphlaw21.MeshPlain", spec := "meshPlain", unfollowed := true, recurses := true, apart := false }
def MeshPlainSaid : Prop := meshPlainRow.holds Try.pinned (OpenSpec.ofChange meshPlainSpec)

/-- ITS FALSE NEIGHBOUR: 'it returns false'. Refute it at one input. -/
def meshPlainWrong : ChangeSpec := { name := "meshPlain", fn := fun _ => fun
  | [d1, d2] => { results := [.lit (.bool false)], args := [d1, d2] }
  | _ => none }
def MeshPlainWrongFalsely : Prop := meshPlainRow.holds Try.pinned (OpenSpec.ofChange meshPlainWrong)

/-- 'anamorphlaw23.TurnAsks': WHATEVER THE INPUT: true; the input reads as it did. -/
def turnAsksSpec : ChangeSpec := { name := "turnAsks", fn := fun _ => fun
  | [d1, d2] => { results := [.lit (.bool true)], args := [d1, d2] }
  | _ => none }
def turnAsksRow : OpenClaim := { program := "ytgcnmffbhjlolab", sum := "7c05afa23007eb776828a395b67f3c13cef61331ff9586376a52faeafc7ba883", func := "anamorph/anamorphlaw23.TurnAsks", spec := "turnAsks", unfollowed := true, recurses := true, apart := false }
def TurnAsksSaid : Prop := turnAsksRow.holds Try.pinned (OpenSpec.ofChange turnAsksSpec)

/-- ITS FALSE NEIGHBOUR: 'it returns false'. Refute it at one input. -/
def turnAsksWrong : ChangeSpec := { name := "turnAsks", fn := fun _ => fun
  | [d1, d2] => { results := [.lit (.bool false)], args := [d1, d2] }
  | _ => none }
def TurnAsksWrongFalsely : Prop := turnAsksRow.holds Try.pinned (OpenSpec.ofChange turnAsksWrong)

/-- 'anamorphlaw23.TurnImages': WHATEVER THE INPUT: true; the input reads as it did. -/
def turnImagesSpec : ChangeSpec := { name := "turnImages", fn := fun _ => fun
  | [d1, d2] => { results := [.lit (.bool true)], args := [d1, d2] }
  | _ => none }
def turnImagesRow : OpenClaim := { program := "ytgcnmffbhjlolab", sum := "7c05afa23007eb776828a395b67f3c13cef61331ff9586376a52faeafc7ba883", func := "anamorph/anamorphlaw23.TurnImages", spec := "turnImages", unfollowed := true, recurses := true, apart := false }
def TurnImagesSaid : Prop := turnImagesRow.holds Try.pinned (OpenSpec.ofChange turnImagesSpec)

/-- ITS FALSE NEIGHBOUR: 'it returns false'. Refute it at one input. -/
def turnImagesWrong : ChangeSpec := { name := "turnImages", fn := fun _ => fun
  | [d1, d2] => { results := [.lit (.bool false)], args := [d1, d2] }
  | _ => none }
def TurnImagesWrongFalsely : Prop := turnImagesRow.holds Try.pinned (OpenSpec.ofChange turnImagesWrong)

/-- 'anamorphlaw23.TurnThen': WHATEVER THE INPUT: true; the input reads as it did. -/
def turnThenSpec : ChangeSpec := { name := "turnThen", fn := fun _ => fun
  | [d1, d2, d3] => { results := [.lit (.bool true)], args := [d1, d2, d3] }
  | _ => none }
def turnThenRow : OpenClaim := { program := "ytgcnmffbhjlolab", sum := "7c05afa23007eb776828a395b67f3c13cef61331ff9586376a52faeafc7ba883", func := "anamorph/anamorphlaw23.TurnThen", spec := "turnThen", unfollowed := true, recurses := true, apart := false }
def TurnThenSaid : Prop := turnThenRow.holds Try.pinned (OpenSpec.ofChange turnThenSpec)

/-- ITS FALSE NEIGHBOUR: 'it returns false'. Refute it at one input. -/
def turnThenWrong : ChangeSpec := { name := "turnThen", fn := fun _ => fun
  | [d1, d2, d3] => { results := [.lit (.bool false)], args := [d1, d2, d3] }
  | _ => none }
def TurnThenWrongFalsely : Prop := turnThenRow.holds Try.pinned (OpenSpec.ofChange turnThenWrong)

/- THE SECOND FORM. 'bulk': how many values and letters a reading holds, each counted each time it is reached (what is shared counts as often as it is met; a slice's spare places count too). A statement '..UptoSaid' is the law's where the arguments, and the package variables that the reading takes, are together of bulk at most 1048576: NARROWER than '..Said'. Prove '..Said' where nothing that the law and all that it calls make is longer than what came in: it says more and counts as full. Else prove '..UptoSaid'. A law counts once. -/
mutual
def uptoBulk {H : Type} : DataW H → Nat
  | .lit (.string bytes) => bytes.length + 1
  | .lit _ => 1
  | .nil => 1
  | .ptr d => uptoBulk d + 1
  | .slice elems spare => uptoBulkAll elems + uptoBulkAll spare + 1
  | .agg parts => uptoBulkAll parts + 1
  | .iface _ d => uptoBulk d + 1
  | .map entries => uptoBulkEntries entries + 1
  | .held _ => 1
def uptoBulkAll {H : Type} : List (DataW H) → Nat
  | [] => 0
  | d :: r => uptoBulk d + uptoBulkAll r
def uptoBulkEntries {H : Type} : List (Lit × DataW H) → Nat
  | [] => 0
  | x :: r => uptoBulkEntry x + uptoBulkEntries r
def uptoBulkEntry {H : Type} : Lit × DataW H → Nat
  | (.string bytes, d) => bytes.length + uptoBulk d + 1
  | (_, d) => uptoBulk d + 1
 end
def uptoSmall : (H : Type) → List (DataW H) → Bool := fun _ ds => decide (uptoBulkAll ds ≤ 1048576)
def OpenSpec.upto (s : _root_.Go.ChangeSpec) : _root_.Go.OpenSpec := { _root_.Go.OpenSpec.ofChange s with cond := some uptoSmall }

/-- 'anamorphlaw21.MeshAsks', WHERE WHAT IT READS IS OF BULK AT MOST 1048576: true; the input reads as it did. -/
def meshAsksUptoRow : OpenClaim := { program := "ytgcnmffbhjlolab", sum := "7c05afa23007eb776828a395b67f3c13cef61331ff9586376a52faeafc7ba883", func := "anamorph/anamorphlaw21.MeshAsks", spec := "meshAsks", unfollowed := true, recurses := true, apart := false, narrowed := true }
def MeshAsksUptoSaid : Prop := meshAsksUptoRow.holds Try.pinned (OpenSpec.upto meshAsksSpec)

/-- 'anamorphlaw21.MeshKnots', WHERE WHAT IT READS IS OF BULK AT MOST 1048576: true; the input reads as it did. -/
def meshKnotsUptoRow : OpenClaim := { program := "ytgcnmffbhjlolab", sum := "7c05afa23007eb776828a395b67f3c13cef61331ff9586376a52faeafc7ba883", func := "anamorph/anamorphlaw21.MeshKnots", spec := "meshKnots", unfollowed := true, recurses := true, apart := false, narrowed := true }
def MeshKnotsUptoSaid : Prop := meshKnotsUptoRow.holds Try.pinned (OpenSpec.upto meshKnotsSpec)

/-- 'anamorphlaw21.MeshHulls', WHERE WHAT IT READS IS OF BULK AT MOST 1048576: true; the input reads as it did. -/
def meshHullsUptoRow : OpenClaim := { program := "ytgcnmffbhjlolab", sum := "7c05afa23007eb776828a395b67f3c13cef61331ff9586376a52faeafc7ba883", func := "anamorph/anamorphlaw21.MeshHulls", spec := "meshHulls", unfollowed := true, recurses := true, apart := false, narrowed := true }
def MeshHullsUptoSaid : Prop := meshHullsUptoRow.holds Try.pinned (OpenSpec.upto meshHullsSpec)

/-- 'anamorphlaw21.MeshPlain', WHERE WHAT IT READS IS OF BULK AT MOST 1048576: true; the input reads as it did. -/
def meshPlainUptoRow : OpenClaim := { program := "ytgcnmffbhjlolab", sum := "7c05afa23007eb776828a395b67f3c13cef61331ff9586376a52faeafc7ba883", func := "anamorph/anamorphlaw21.MeshPlain", spec := "meshPlain", unfollowed := true, recurses := true, apart := false, narrowed := true }
def MeshPlainUptoSaid : Prop := meshPlainUptoRow.holds Try.pinned (OpenSpec.upto meshPlainSpec)

/-- 'anamorphlaw23.TurnAsks', WHERE WHAT IT READS IS OF BULK AT MOST 1048576: true; the input reads as it did. -/
def turnAsksUptoRow : OpenClaim := { program := "ytgcnmffbhjlolab", sum := "7c05afa23007eb776828a395b67f3c13cef61331ff9586376a52faeafc7ba883", func := "anamorph/anamorphlaw23.TurnAsks", spec := "turnAsks", unfollowed := true, recurses := true, apart := false, narrowed := true }
def TurnAsksUptoSaid : Prop := turnAsksUptoRow.holds Try.pinned (OpenSpec.upto turnAsksSpec)

/-- 'anamorphlaw23.TurnImages', WHERE WHAT IT READS IS OF BULK AT MOST 1048576: true; the input reads as it did. -/
def turnImagesUptoRow : OpenClaim := { program := "ytgcnmffbhjlolab", sum := "7c05afa23007eb776828a395b67f3c13cef61331ff9586376a52faeafc7ba883", func := "anamorph/anamorphlaw23.TurnImages", spec := "turnImages", unfollowed := true, recurses := true, apart := false, narrowed := true }
def TurnImagesUptoSaid : Prop := turnImagesUptoRow.holds Try.pinned (OpenSpec.upto turnImagesSpec)

/-- 'anamorphlaw23.TurnThen', WHERE WHAT IT READS IS OF BULK AT MOST 1048576: true; the input reads as it did. -/
def turnThenUptoRow : OpenClaim := { program := "ytgcnmffbhjlolab", sum := "7c05afa23007eb776828a395b67f3c13cef61331ff9586376a52faeafc7ba883", func := "anamorph/anamorphlaw23.TurnThen", spec := "turnThen", unfollowed := true, recurses := true, apart := false, narrowed := true }
def TurnThenUptoSaid : Prop := turnThenUptoRow.holds Try.pinned (OpenSpec.upto turnThenSpec)

end Rows
end Go.Proofs.Ytgcnmffbhjlolab
