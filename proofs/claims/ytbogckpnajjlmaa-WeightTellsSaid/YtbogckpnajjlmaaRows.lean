/-
  No cell of these rows narrows 'for every input' (looked for: loops, veiled, ifaces, maps, wideKeys, modest, calm, conditions, laid).
  DERIVED. THE GIVEN ROWS OF THIS SEAT. 7 by the template 'for every input the law returns true; each argument reads behind the call as it read before'; 0 by the template 'total and deterministic' (their statements: YtbogckpnajjlmaaTotals.lean).
  GIVEN WITH THE SEED: the statements are not yours to turn. If you find one false, say at which input.
  Laid BY PROGRAM, IN A SANDBOX (cutbox-rows.mjs): the forced cells as the released guide's own fill.sh prints them over the translation aa91599935361170… (all of the seat's roots in one cut). By AI agents, Wed Nov 11 2026. No macro, syntax, notation, axiom, sorry.
-/
import Derived.Test.YtbogckpnajjlmaaChecked
import GoSem.Claim
import GoSem.ClaimJoined
import GoSem.ClaimMapViews
import Derived.JoinedTies
import Derived.KernelRfl
namespace Go.Proofs.Ytbogckpnajjlmaa
/- THE CELL 'sum', in the pinned program and in every row, IS THE sha256 OF THE DUMP (.gsa) THAT YtbogckpnajjlmaaProg.lean LOADS. Nothing in Lean hashes anything: it is a label: what it is worth is what the hold of that sum in a sandbox is worth. -/
noncomputable def Try.pinned : Pinned := { name := "ytbogckpnajjlmaa", sum := "aa91599935361170ee3c206ea01be1b2dfd8da6e05f3a241b7900aac95f58427", checked := Try.checked }
namespace Rows
def none {H : Type} : Left H := { results := [], args := [] }

/-- 'anamorphlaw07.ImgParts': WHATEVER THE INPUT: true; the input reads as it did. -/
def imgPartsSpec : ChangeSpec := { name := "imgParts", fn := fun _ => fun
  | [d1, d2] => { results := [.lit (.bool true)], args := [d1, d2] }
  | _ => none }
def imgPartsRow : OpenClaim := { program := "ytbogckpnajjlmaa", sum := "aa91599935361170ee3c206ea01be1b2dfd8da6e05f3a241b7900aac95f58427", func := "anamorph/anamorphlaw07.ImgParts", spec := "imgParts", apart := false }
def ImgPartsSaid : Prop := imgPartsRow.holds Try.pinned (OpenSpec.ofChange imgPartsSpec)

/-- ITS FALSE NEIGHBOUR: 'it returns false'. Refute it at one input. -/
def imgPartsWrong : ChangeSpec := { name := "imgParts", fn := fun _ => fun
  | [d1, d2] => { results := [.lit (.bool false)], args := [d1, d2] }
  | _ => none }
def ImgPartsWrongFalsely : Prop := imgPartsRow.holds Try.pinned (OpenSpec.ofChange imgPartsWrong)

/-- 'anamorphlaw07.ImgPastes': WHATEVER THE INPUT: true; the input reads as it did. -/
def imgPastesSpec : ChangeSpec := { name := "imgPastes", fn := fun _ => fun
  | [d1, d2, d3] => { results := [.lit (.bool true)], args := [d1, d2, d3] }
  | _ => none }
def imgPastesRow : OpenClaim := { program := "ytbogckpnajjlmaa", sum := "aa91599935361170ee3c206ea01be1b2dfd8da6e05f3a241b7900aac95f58427", func := "anamorph/anamorphlaw07.ImgPastes", spec := "imgPastes", apart := false }
def ImgPastesSaid : Prop := imgPastesRow.holds Try.pinned (OpenSpec.ofChange imgPastesSpec)

/-- ITS FALSE NEIGHBOUR: 'it returns false'. Refute it at one input. -/
def imgPastesWrong : ChangeSpec := { name := "imgPastes", fn := fun _ => fun
  | [d1, d2, d3] => { results := [.lit (.bool false)], args := [d1, d2, d3] }
  | _ => none }
def ImgPastesWrongFalsely : Prop := imgPastesRow.holds Try.pinned (OpenSpec.ofChange imgPastesWrong)

/-- 'anamorphlaw08.BorderPixels': WHATEVER THE INPUT: true; the input reads as it did. -/
def borderPixelsSpec : ChangeSpec := { name := "borderPixels", fn := fun _ => fun
  | [d1, d2, d3] => { results := [.lit (.bool true)], args := [d1, d2, d3] }
  | _ => none }
def borderPixelsRow : OpenClaim := { program := "ytbogckpnajjlmaa", sum := "aa91599935361170ee3c206ea01be1b2dfd8da6e05f3a241b7900aac95f58427", func := "anamorph/anamorphlaw08.BorderPixels", spec := "borderPixels", unfollowed := true, recurses := true, apart := false }
def BorderPixelsSaid : Prop := borderPixelsRow.holds Try.pinned (OpenSpec.ofChange borderPixelsSpec)

/-- ITS FALSE NEIGHBOUR: 'it returns false'. Refute it at one input. -/
def borderPixelsWrong : ChangeSpec := { name := "borderPixels", fn := fun _ => fun
  | [d1, d2, d3] => { results := [.lit (.bool false)], args := [d1, d2, d3] }
  | _ => none }
def BorderPixelsWrongFalsely : Prop := borderPixelsRow.holds Try.pinned (OpenSpec.ofChange borderPixelsWrong)

/-- 'anamorphlaw27.WeightTells': WHATEVER THE INPUT: true; the input reads as it did. -/
def weightTellsSpec : ChangeSpec := { name := "weightTells", fn := fun _ => fun
  | [d1, d2] => { results := [.lit (.bool true)], args := [d1, d2] }
  | _ => none }
def weightTellsRow : OpenClaim := { program := "ytbogckpnajjlmaa", sum := "aa91599935361170ee3c206ea01be1b2dfd8da6e05f3a241b7900aac95f58427", func := "anamorph/anamorphlaw27.WeightTells", spec := "weightTells", apart := false }
def WeightTellsSaid : Prop := weightTellsRow.holds Try.pinned (OpenSpec.ofChange weightTellsSpec)

/-- ITS FALSE NEIGHBOUR: 'it returns false'. Refute it at one input. -/
def weightTellsWrong : ChangeSpec := { name := "weightTells", fn := fun _ => fun
  | [d1, d2] => { results := [.lit (.bool false)], args := [d1, d2] }
  | _ => none }
def WeightTellsWrongFalsely : Prop := weightTellsRow.holds Try.pinned (OpenSpec.ofChange weightTellsWrong)

/-- 'anamorphlaw28.NearAt': WHATEVER THE INPUT: true; the input reads as it did. -/
def nearAtSpec : ChangeSpec := { name := "nearAt", fn := fun _ => fun
  | [d1, d2, d3] => { results := [.lit (.bool true)], args := [d1, d2, d3] }
  | _ => none }
def nearAtRow : OpenClaim := { program := "ytbogckpnajjlmaa", sum := "aa91599935361170ee3c206ea01be1b2dfd8da6e05f3a241b7900aac95f58427", func := "anamorph/anamorphlaw28.NearAt", spec := "nearAt", unfollowed := true, recurses := true, apart := false }
def NearAtSaid : Prop := nearAtRow.holds Try.pinned (OpenSpec.ofChange nearAtSpec)

/-- ITS FALSE NEIGHBOUR: 'it returns false'. Refute it at one input. -/
def nearAtWrong : ChangeSpec := { name := "nearAt", fn := fun _ => fun
  | [d1, d2, d3] => { results := [.lit (.bool false)], args := [d1, d2, d3] }
  | _ => none }
def NearAtWrongFalsely : Prop := nearAtRow.holds Try.pinned (OpenSpec.ofChange nearAtWrong)

/-- 'anamorphlaw29.LinearAt': WHATEVER THE INPUT: true; the input reads as it did. -/
def linearAtSpec : ChangeSpec := { name := "linearAt", fn := fun _ => fun
  | [d1, d2, d3] => { results := [.lit (.bool true)], args := [d1, d2, d3] }
  | _ => none }
def linearAtRow : OpenClaim := { program := "ytbogckpnajjlmaa", sum := "aa91599935361170ee3c206ea01be1b2dfd8da6e05f3a241b7900aac95f58427", func := "anamorph/anamorphlaw29.LinearAt", spec := "linearAt", unfollowed := true, recurses := true, apart := false }
def LinearAtSaid : Prop := linearAtRow.holds Try.pinned (OpenSpec.ofChange linearAtSpec)

/-- ITS FALSE NEIGHBOUR: 'it returns false'. Refute it at one input. -/
def linearAtWrong : ChangeSpec := { name := "linearAt", fn := fun _ => fun
  | [d1, d2, d3] => { results := [.lit (.bool false)], args := [d1, d2, d3] }
  | _ => none }
def LinearAtWrongFalsely : Prop := linearAtRow.holds Try.pinned (OpenSpec.ofChange linearAtWrong)

/-- 'anamorphlaw29.LinearBetween': WHATEVER THE INPUT: true; the input reads as it did. -/
def linearBetweenSpec : ChangeSpec := { name := "linearBetween", fn := fun _ => fun
  | [d1, d2, d3] => { results := [.lit (.bool true)], args := [d1, d2, d3] }
  | _ => none }
def linearBetweenRow : OpenClaim := { program := "ytbogckpnajjlmaa", sum := "aa91599935361170ee3c206ea01be1b2dfd8da6e05f3a241b7900aac95f58427", func := "anamorph/anamorphlaw29.LinearBetween", spec := "linearBetween", unfollowed := true, recurses := true, apart := false }
def LinearBetweenSaid : Prop := linearBetweenRow.holds Try.pinned (OpenSpec.ofChange linearBetweenSpec)

/-- ITS FALSE NEIGHBOUR: 'it returns false'. Refute it at one input. -/
def linearBetweenWrong : ChangeSpec := { name := "linearBetween", fn := fun _ => fun
  | [d1, d2, d3] => { results := [.lit (.bool false)], args := [d1, d2, d3] }
  | _ => none }
def LinearBetweenWrongFalsely : Prop := linearBetweenRow.holds Try.pinned (OpenSpec.ofChange linearBetweenWrong)

/- THE SECOND FORM. 'bulk': how many values and letters a reading holds, each counted each time it is reached (what is shared counts as often as it is met; a slice's spare places count too). A statement '..UptoSaid' is the law's where the arguments, and the package variables that the reading takes, are together of bulk at most 1048576: NARROWER than '..Said'. Prove '..Said' where nothing that the law and all that it calls make is longer than what came in: it says more and counts as full. Else prove '..UptoSaid'. A law counts once. -/
mutual
def uptoBulk {H : Type} : DataW H → Nat
  | .lit (.string bytes) => bytes.length + 1
  | .lit _ => 1
  | .nil => 1
  | .ptr d => uptoBulk d + 1
  | .slice elems spare => uptoBulkAll elems + uptoBulkAll spare + 1
  | .agg parts => uptoBulkAll parts + 1
  | .iface _ d => uptoBulk d + 1
  | .map entries => uptoBulkEntries entries + 1
  | .held _ => 1
def uptoBulkAll {H : Type} : List (DataW H) → Nat
  | [] => 0
  | d :: r => uptoBulk d + uptoBulkAll r
def uptoBulkEntries {H : Type} : List (Lit × DataW H) → Nat
  | [] => 0
  | x :: r => uptoBulkEntry x + uptoBulkEntries r
def uptoBulkEntry {H : Type} : Lit × DataW H → Nat
  | (.string bytes, d) => bytes.length + uptoBulk d + 1
  | (_, d) => uptoBulk d + 1
 end
def uptoSmall : (H : Type) → List (DataW H) → Bool := fun _ ds => decide (uptoBulkAll ds ≤ 1048576)
def OpenSpec.upto (s : _root_.Go.ChangeSpec) : _root_.Go.OpenSpec := { _root_.Go.OpenSpec.ofChange s with cond := some uptoSmall }

/-- 'anamorphlaw07.ImgParts', WHERE WHAT IT READS IS OF BULK AT MOST 1048576: true; the input reads as it did. -/
def imgPartsUptoRow : OpenClaim := { program := "ytbogckpnajjlmaa", sum := "aa91599935361170ee3c206ea01be1b2dfd8da6e05f3a241b7900aac95f58427", func := "anamorph/anamorphlaw07.ImgParts", spec := "imgParts", apart := false, narrowed := true }
def ImgPartsUptoSaid : Prop := imgPartsUptoRow.holds Try.pinned (OpenSpec.upto imgPartsSpec)

/-- 'anamorphlaw07.ImgPastes', WHERE WHAT IT READS IS OF BULK AT MOST 1048576: true; the input reads as it did. -/
def imgPastesUptoRow : OpenClaim := { program := "ytbogckpnajjlmaa", sum := "aa91599935361170ee3c206ea01be1b2dfd8da6e05f3a241b7900aac95f58427", func := "anamorph/anamorphlaw07.ImgPastes", spec := "imgPastes", apart := false, narrowed := true }
def ImgPastesUptoSaid : Prop := imgPastesUptoRow.holds Try.pinned (OpenSpec.upto imgPastesSpec)

/-- 'anamorphlaw08.BorderPixels', WHERE WHAT IT READS IS OF BULK AT MOST 1048576: true; the input reads as it did. -/
def borderPixelsUptoRow : OpenClaim := { program := "ytbogckpnajjlmaa", sum := "aa91599935361170ee3c206ea01be1b2dfd8da6e05f3a241b7900aac95f58427", func := "anamorph/anamorphlaw08.BorderPixels", spec := "borderPixels", unfollowed := true, recurses := true, apart := false, narrowed := true }
def BorderPixelsUptoSaid : Prop := borderPixelsUptoRow.holds Try.pinned (OpenSpec.upto borderPixelsSpec)

/-- 'anamorphlaw27.WeightTells', WHERE WHAT IT READS IS OF BULK AT MOST 1048576: true; the input reads as it did. -/
def weightTellsUptoRow : OpenClaim := { program := "ytbogckpnajjlmaa", sum := "aa91599935361170ee3c206ea01be1b2dfd8da6e05f3a241b7900aac95f58427", func := "anamorph/anamorphlaw27.WeightTells", spec := "weightTells", apart := false, narrowed := true }
def WeightTellsUptoSaid : Prop := weightTellsUptoRow.holds Try.pinned (OpenSpec.upto weightTellsSpec)

/-- 'anamorphlaw28.NearAt', WHERE WHAT IT READS IS OF BULK AT MOST 1048576: true; the input reads as it did. -/
def nearAtUptoRow : OpenClaim := { program := "ytbogckpnajjlmaa", sum := "aa91599935361170ee3c206ea01be1b2dfd8da6e05f3a241b7900aac95f58427", func := "anamorph/anamorphlaw28.NearAt", spec := "nearAt", unfollowed := true, recurses := true, apart := false, narrowed := true }
def NearAtUptoSaid : Prop := nearAtUptoRow.holds Try.pinned (OpenSpec.upto nearAtSpec)

/-- 'anamorphlaw29.LinearAt', WHERE WHAT IT READS IS OF BULK AT MOST 1048576: true; the input reads as it did. -/
def linearAtUptoRow : OpenClaim := { program := "ytbogckpnajjlmaa", sum := "aa91599935361170ee3c206ea01be1b2dfd8da6e05f3a241b7900aac95f58427", func := "anamorph/anamorphlaw29.LinearAt", spec := "linearAt", unfollowed := true, recurses := true, apart := false, narrowed := true }
def LinearAtUptoSaid : Prop := linearAtUptoRow.holds Try.pinned (OpenSpec.upto linearAtSpec)

/-- 'anamorphlaw29.LinearBetween', WHERE WHAT IT READS IS OF BULK AT MOST 1048576: true; the input reads as it did. -/
def linearBetweenUptoRow : OpenClaim := { program := "ytbogckpnajjlmaa", sum := "aa91599935361170ee3c206ea01be1b2dfd8da6e05f3a241b7900aac95f58427", func := "anamorph/anamorphlaw29.LinearBetween", spec := "linearBetween", unfollowed := true, recurses := true, apart := false, narrowed := true }
def LinearBetweenUptoSaid : Prop := linearBetweenUptoRow.holds Try.pinned (OpenSpec.upto linearBetweenSpec)

end Rows
end Go.Proofs.Ytbogckpnajjlmaa
