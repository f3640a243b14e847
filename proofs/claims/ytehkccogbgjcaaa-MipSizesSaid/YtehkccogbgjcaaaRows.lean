/-
  No cell of these rows narrows 'for every input' (looked for: loops, veiled, ifaces, maps, wideKeys, modest, calm, conditions, laid).
  DERIVED. THE GIVEN ROWS OF THIS SEAT. 8 by the template 'for every input the law returns true; each argument reads behind the call as it read before'; 0 by the template 'total and deterministic' (their statements: YtehkccogbgjcaaaTotals.lean).
  GIVEN WITH THE SEED: the statements are not yours to turn. If you find one false, say at which input.
  Laid BY PROGRAM, IN A SANDBOX (cutbox-rows.mjs): the forced cells as the released guide's own fill.sh prints them over the translation 9b530ba3dbd00c00… (all of the seat's roots in one cut). By AI agents, Wed Nov 11 2026. No macro, syntax, notation, axiom, sorry.
-/
import Derived.Test.YtehkccogbgjcaaaChecked
import GoSem.Claim
import GoSem.ClaimJoined
import GoSem.ClaimMapViews
import Derived.JoinedTies
import Derived.KernelRfl
namespace Go.Proofs.Ytehkccogbgjcaaa
/- THE CELL 'sum', in the pinned program and in every row, IS THE sha256 OF THE DUMP (.gsa) THAT YtehkccogbgjcaaaProg.lean LOADS. Nothing in Lean hashes anything: it is a label: what it is worth is what the hold of that sum in a sandbox is worth. -/
noncomputable def Try.pinned : Pinned := { name := "ytehkccogbgjcaaa", sum := "9b530ba3dbd00c001c3c8891b5716dbd57ae7f4bf506e34c979195c39a63dfb7", checked := Try.checked }
namespace Rows
def none {H : Type} : Left H := { results := [], args := [] }

/-- 'anamorphlaw02.QuotSmall': WHATEVER THE INPUT: true; the input reads as it did. -/
def quotSmallSpec : ChangeSpec := { name := "quotSmall", fn := fun _ => fun
  | [d1, d2] => { results := [.lit (.bool true)], args := [d1, d2] }
  | _ => none }
def quotSmallRow : OpenClaim := { program := "ytehkccogbgjcaaa", sum := "9b530ba3dbd00c001c3c8891b5716dbd57ae7f4bf506e34c979195c39a63dfb7", func := "anamorph/anamorphlaw02.QuotSmall", spec := "quotSmall", apart := false }
def QuotSmallSaid : Prop := quotSmallRow.holds Try.pinned (OpenSpec.ofChange quotSmallSpec)

/-- ITS FALSE NEIGHBOUR: 'it returns false'. Refute it at one input. -/
def quotSmallWrong : ChangeSpec := { name := "quotSmall", fn := fun _ => fun
  | [d1, d2] => { results := [.lit (.bool false)], args := [d1, d2] }
  | _ => none }
def QuotSmallWrongFalsely : Prop := quotSmallRow.holds Try.pinned (OpenSpec.ofChange quotSmallWrong)

/-- 'anamorphlaw27.WeightSums': WHATEVER THE INPUT: true; the input reads as it did. -/
def weightSumsSpec : ChangeSpec := { name := "weightSums", fn := fun _ => fun
  | [d1, d2, d3] => { results := [.lit (.bool true)], args := [d1, d2, d3] }
  | _ => none }
def weightSumsRow : OpenClaim := { program := "ytehkccogbgjcaaa", sum := "9b530ba3dbd00c001c3c8891b5716dbd57ae7f4bf506e34c979195c39a63dfb7", func := "anamorph/anamorphlaw27.WeightSums", spec := "weightSums", apart := false }
def WeightSumsSaid : Prop := weightSumsRow.holds Try.pinned (OpenSpec.ofChange weightSumsSpec)

/-- ITS FALSE NEIGHBOUR: 'it returns false'. Refute it at one input. -/
def weightSumsWrong : ChangeSpec := { name := "weightSums", fn := fun _ => fun
  | [d1, d2, d3] => { results := [.lit (.bool false)], args := [d1, d2, d3] }
  | _ => none }
def WeightSumsWrongFalsely : Prop := weightSumsRow.holds Try.pinned (OpenSpec.ofChange weightSumsWrong)

/-- 'anamorphlaw28.NearBy': WHATEVER THE INPUT: true; the input reads as it did. -/
def nearBySpec : ChangeSpec := { name := "nearBy", fn := fun _ => fun
  | [d1, d2, d3] => { results := [.lit (.bool true)], args := [d1, d2, d3] }
  | _ => none }
def nearByRow : OpenClaim := { program := "ytehkccogbgjcaaa", sum := "9b530ba3dbd00c001c3c8891b5716dbd57ae7f4bf506e34c979195c39a63dfb7", func := "anamorph/anamorphlaw28.NearBy", spec := "nearBy", unfollowed := true, recurses := true, apart := false }
def NearBySaid : Prop := nearByRow.holds Try.pinned (OpenSpec.ofChange nearBySpec)

/-- ITS FALSE NEIGHBOUR: 'it returns false'. Refute it at one input. -/
def nearByWrong : ChangeSpec := { name := "nearBy", fn := fun _ => fun
  | [d1, d2, d3] => { results := [.lit (.bool false)], args := [d1, d2, d3] }
  | _ => none }
def NearByWrongFalsely : Prop := nearByRow.holds Try.pinned (OpenSpec.ofChange nearByWrong)

/-- 'anamorphlaw28.NearReach': WHATEVER THE INPUT: true; the input reads as it did. -/
def nearReachSpec : ChangeSpec := { name := "nearReach", fn := fun _ => fun
  | [d1, d2] => { results := [.lit (.bool true)], args := [d1, d2] }
  | _ => none }
def nearReachRow : OpenClaim := { program := "ytehkccogbgjcaaa", sum := "9b530ba3dbd00c001c3c8891b5716dbd57ae7f4bf506e34c979195c39a63dfb7", func := "anamorph/anamorphlaw28.NearReach", spec := "nearReach", apart := false }
def NearReachSaid : Prop := nearReachRow.holds Try.pinned (OpenSpec.ofChange nearReachSpec)

/-- ITS FALSE NEIGHBOUR: 'it returns false'. Refute it at one input. -/
def nearReachWrong : ChangeSpec := { name := "nearReach", fn := fun _ => fun
  | [d1, d2] => { results := [.lit (.bool false)], args := [d1, d2] }
  | _ => none }
def NearReachWrongFalsely : Prop := nearReachRow.holds Try.pinned (OpenSpec.ofChange nearReachWrong)

/-- 'anamorphlaw29.LinearReach': WHATEVER THE INPUT: true; the input reads as it did. -/
def linearReachSpec : ChangeSpec := { name := "linearReach", fn := fun _ => fun
  | [d1, d2] => { results := [.lit (.bool true)], args := [d1, d2] }
  | _ => none }
def linearReachRow : OpenClaim := { program := "ytehkccogbgjcaaa", sum := "9b530ba3dbd00c001c3c8891b5716dbd57ae7f4bf506e34c979195c39a63dfb7", func := "anamorph/anamorphlaw29.LinearReach", spec := "linearReach", unfollowed := true, recurses := true, apart := false }
def LinearReachSaid : Prop := linearReachRow.holds Try.pinned (OpenSpec.ofChange linearReachSpec)

/-- ITS FALSE NEIGHBOUR: 'it returns false'. Refute it at one input. -/
def linearReachWrong : ChangeSpec := { name := "linearReach", fn := fun _ => fun
  | [d1, d2] => { results := [.lit (.bool false)], args := [d1, d2] }
  | _ => none }
def LinearReachWrongFalsely : Prop := linearReachRow.holds Try.pinned (OpenSpec.ofChange linearReachWrong)

/-- 'anamorphlaw30.CubicReach': WHATEVER THE INPUT: true; the input reads as it did. -/
def cubicReachSpec : ChangeSpec := { name := "cubicReach", fn := fun _ => fun
  | [d1, d2] => { results := [.lit (.bool true)], args := [d1, d2] }
  | _ => none }
def cubicReachRow : OpenClaim := { program := "ytehkccogbgjcaaa", sum := "9b530ba3dbd00c001c3c8891b5716dbd57ae7f4bf506e34c979195c39a63dfb7", func := "anamorph/anamorphlaw30.CubicReach", spec := "cubicReach", apart := false }
def CubicReachSaid : Prop := cubicReachRow.holds Try.pinned (OpenSpec.ofChange cubicReachSpec)

/-- ITS FALSE NEIGHBOUR: 'it returns false'. Refute it at one input. -/
def cubicReachWrong : ChangeSpec := { name := "cubicReach", fn := fun _ => fun
  | [d1, d2] => { results := [.lit (.bool false)], args := [d1, d2] }
  | _ => none }
def CubicReachWrongFalsely : Prop := cubicReachRow.holds Try.pinned (OpenSpec.ofChange cubicReachWrong)

/-- 'anamorphlaw31.MipSizes': WHATEVER THE INPUT: true; the input reads as it did. -/
def mipSizesSpec : ChangeSpec := { name := "mipSizes", fn := fun _ => fun
  | [d1, d2, d3] => { results := [.lit (.bool true)], args := [d1, d2, d3] }
  | _ => none }
def mipSizesRow : OpenClaim := { program := "ytehkccogbgjcaaa", sum := "9b530ba3dbd00c001c3c8891b5716dbd57ae7f4bf506e34c979195c39a63dfb7", func := "anamorph/anamorphlaw31.MipSizes", spec := "mipSizes", apart := false }
def MipSizesSaid : Prop := mipSizesRow.holds Try.pinned (OpenSpec.ofChange mipSizesSpec)

/-- ITS FALSE NEIGHBOUR: 'it returns false'. Refute it at one input. -/
def mipSizesWrong : ChangeSpec := { name := "mipSizes", fn := fun _ => fun
  | [d1, d2, d3] => { results := [.lit (.bool false)], args := [d1, d2, d3] }
  | _ => none }
def MipSizesWrongFalsely : Prop := mipSizesRow.holds Try.pinned (OpenSpec.ofChange mipSizesWrong)

/-- 'anamorphlaw32.LevelPicks': WHATEVER THE INPUT: true; the input reads as it did. -/
def levelPicksSpec : ChangeSpec := { name := "levelPicks", fn := fun _ => fun
  | [d1, d2, d3] => { results := [.lit (.bool true)], args := [d1, d2, d3] }
  | _ => none }
def levelPicksRow : OpenClaim := { program := "ytehkccogbgjcaaa", sum := "9b530ba3dbd00c001c3c8891b5716dbd57ae7f4bf506e34c979195c39a63dfb7", func := "anamorph/anamorphlaw32.LevelPicks", spec := "levelPicks", apart := false }
def LevelPicksSaid : Prop := levelPicksRow.holds Try.pinned (OpenSpec.ofChange levelPicksSpec)

/-- ITS FALSE NEIGHBOUR: 'it returns false'. Refute it at one input. -/
def levelPicksWrong : ChangeSpec := { name := "levelPicks", fn := fun _ => fun
  | [d1, d2, d3] => { results := [.lit (.bool false)], args := [d1, d2, d3] }
  | _ => none }
def LevelPicksWrongFalsely : Prop := levelPicksRow.holds Try.pinned (OpenSpec.ofChange levelPicksWrong)

/- THE SECOND FORM. 'bulk': how many values and letters a reading holds, each counted each time it is reached (what is shared counts as often as it is met; a slice's spare places count too). A statement '..UptoSaid' is the law's where the arguments, and the package variables that the reading takes, are together of bulk at most 1048576: NARROWER than '..Said'. Prove '..Said' where nothing that the law and all that it calls make is longer than what came in: it says more and counts as full. Else prove '..UptoSaid'. A law counts once. -/
mutual
def uptoBulk {H : Type} : DataW H → Nat
  | .lit (.string bytes) => bytes.length + 1
  | .lit _ => 1
  | .nil => 1
  | .ptr d => uptoBulk d + 1
  | .slice elems spare => uptoBulkAll elems + uptoBulkAll spare + 1
  | .agg parts => uptoBulkAll parts + 1
  | .iface _ d => uptoBulk d + 1
  | .map entries => uptoBulkEntries entries + 1
  | .held _ => 1
def uptoBulkAll {H : Type} : List (DataW H) → Nat
  | [] => 0
  | d :: r => uptoBulk d + uptoBulkAll r
def uptoBulkEntries {H : Type} : List (Lit × DataW H) → Nat
  | [] => 0
  | x :: r => uptoBulkEntry x + uptoBulkEntries r
def uptoBulkEntry {H : Type} : Lit × DataW H → Nat
  | (.string bytes, d) => bytes.length + uptoBulk d + 1
  | (_, d) => uptoBulk d + 1
 end
def uptoSmall : (H : Type) → List (DataW H) → Bool := fun _ ds => decide (uptoBulkAll ds ≤ 1048576)
def OpenSpec.upto (s : _root_.Go.ChangeSpec) : _root_.Go.OpenSpec := { _root_.Go.OpenSpec.ofChange s with cond := some uptoSmall }

/-- 'anamorphlaw02.QuotSmall', WHERE WHAT IT READS IS OF BULK AT MOST 1048576: true; the input reads as it did. -/
def quotSmallUptoRow : OpenClaim := { program := "ytehkccogbgjcaaa", sum := "9b530ba3dbd00c001c3c8891b5716dbd57ae7f4bf506e34c979195c39a63dfb7", func := "anamorph/anamorphlaw02.QuotSmall", spec := "quotSmall", apart := false, narrowed := true }
def QuotSmallUptoSaid : Prop := quotSmallUptoRow.holds Try.pinned (OpenSpec.upto quotSmallSpec)

/-- 'anamorphlaw27.WeightSums', WHERE WHAT IT READS IS OF BULK AT MOST 1048576: true; the input reads as it did. -/
def weightSumsUptoRow : OpenClaim := { program := "ytehkccogbgjcaaa", sum := "9b530ba3dbd00c001c3c8891b5716dbd57ae7f4bf506e34c979195c39a63dfb7", func := "anamorph/anamorphlaw27.WeightSums", spec := "weightSums", apart := false, narrowed := true }
def WeightSumsUptoSaid : Prop := weightSumsUptoRow.holds Try.pinned (OpenSpec.upto weightSumsSpec)

/-- 'anamorphlaw28.NearBy', WHERE WHAT IT READS IS OF BULK AT MOST 1048576: true; the input reads as it did. -/
def nearByUptoRow : OpenClaim := { program := "ytehkccogbgjcaaa", sum := "9b530ba3dbd00c001c3c8891b5716dbd57ae7f4bf506e34c979195c39a63dfb7", func := "anamorph/anamorphlaw28.NearBy", spec := "nearBy", unfollowed := true, recurses := true, apart := false, narrowed := true }
def NearByUptoSaid : Prop := nearByUptoRow.holds Try.pinned (OpenSpec.upto nearBySpec)

/-- 'anamorphlaw28.NearReach', WHERE WHAT IT READS IS OF BULK AT MOST 1048576: true; the input reads as it did. -/
def nearReachUptoRow : OpenClaim := { program := "ytehkccogbgjcaaa", sum := "9b530ba3dbd00c001c3c8891b5716dbd57ae7f4bf506e34c979195c39a63dfb7", func := "anamorph/anamorphlaw28.NearReach", spec := "nearReach", apart := false, narrowed := true }
def NearReachUptoSaid : Prop := nearReachUptoRow.holds Try.pinned (OpenSpec.upto nearReachSpec)

/-- 'anamorphlaw29.LinearReach', WHERE WHAT IT READS IS OF BULK AT MOST 1048576: true; the input reads as it did. -/
def linearReachUptoRow : OpenClaim := { program := "ytehkccogbgjcaaa", sum := "9b530ba3dbd00c001c3c8891b5716dbd57ae7f4bf506e34c979195c39a63dfb7", func := "anamorph/anamorphlaw29.LinearReach", spec := "linearReach", unfollowed := true, recurses := true, apart := false, narrowed := true }
def LinearReachUptoSaid : Prop := linearReachUptoRow.holds Try.pinned (OpenSpec.upto linearReachSpec)

/-- 'anamorphlaw30.CubicReach', WHERE WHAT IT READS IS OF BULK AT MOST 1048576: true; the input reads as it did. -/
def cubicReachUptoRow : OpenClaim := { program := "ytehkccogbgjcaaa", sum := "9b530ba3dbd00c001c3c8891b5716dbd57ae7f4bf506e34c979195c39a63dfb7", func := "anamorph/anamorphlaw30.CubicReach", spec := "cubicReach", apart := false, narrowed := true }
def CubicReachUptoSaid : Prop := cubicReachUptoRow.holds Try.pinned (OpenSpec.upto cubicReachSpec)

/-- 'anamorphlaw31.MipSizes', WHERE WHAT IT READS IS OF BULK AT MOST 1048576: true; the input reads as it did. -/
def mipSizesUptoRow : OpenClaim := { program := "ytehkccogbgjcaaa", sum := "9b530ba3dbd00c001c3c8891b5716dbd57ae7f4bf506e34c979195c39a63dfb7", func := "anamorph/anamorphlaw31.MipSizes", spec := "mipSizes", apart := false, narrowed := true }
def MipSizesUptoSaid : Prop := mipSizesUptoRow.holds Try.pinned (OpenSpec.upto mipSizesSpec)

/-- 'anamorphlaw32.LevelPicks', WHERE WHAT IT READS IS OF BULK AT MOST 1048576: true; the input reads as it did. -/
def levelPicksUptoRow : OpenClaim := { program := "ytehkccogbgjcaaa", sum := "9b530ba3dbd00c001c3c8891b5716dbd57ae7f4bf506e34c979195c39a63dfb7", func := "anamorph/anamorphlaw32.LevelPicks", spec := "levelPicks", apart := false, narrowed := true }
def LevelPicksUptoSaid : Prop := levelPicksUptoRow.holds Try.pinned (OpenSpec.upto levelPicksSpec)

end Rows
end Go.Proofs.Ytehkccogbgjcaaa
