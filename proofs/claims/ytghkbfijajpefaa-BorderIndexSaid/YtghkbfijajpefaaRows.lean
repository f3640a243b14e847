/-
  No cell of these rows narrows 'for every input' (looked for: loops, veiled, ifaces, maps, wideKeys, modest, calm, conditions, laid).
  DERIVED. THE GIVEN ROWS OF THIS SEAT. 6 by the template 'for every input the law returns true; each argument reads behind the call as it read before'; 0 by the template 'total and deterministic' (their statements: YtghkbfijajpefaaTotals.lean).
  GIVEN WITH THE SEED: the statements are not yours to turn. If you find one false, say at which input.
  Laid BY PROGRAM, IN A SANDBOX (cutbox-rows.mjs): the forced cells as the released guide's own fill.sh prints them over the translation 2eec76792ece15ae… (all of the seat's roots in one cut). By AI agents, Wed Nov 11 2026. No macro, syntax, notation, axiom, sorry.
-/
import Derived.Test.YtghkbfijajpefaaChecked
import GoSem.Claim
import GoSem.ClaimJoined
import GoSem.ClaimMapViews
import Derived.JoinedTies
import Derived.KernelRfl
namespace Go.Proofs.Ytghkbfijajpefaa
/- THE CELL 'sum', in the pinned program and in every row, IS THE sha256 OF THE DUMP (.gsa) THAT YtghkbfijajpefaaProg.lean LOADS. Nothing in Lean hashes anything: it is a label: what it is worth is what the hold of that sum in a sandbox is worth. -/
noncomputable def Try.pinned : Pinned := { name := "ytghkbfijajpefaa", sum := "2eec76792ece15aec3c2a389192c7bfd7864029b67a13645105e3c96087df34d", checked := Try.checked }
namespace Rows
def none {H : Type} : Left H := { results := [], args := [] }

/-- 'anamorphlaw08.BorderIndex': WHATEVER THE INPUT: true; the input reads as it did. -/
def borderIndexSpec : ChangeSpec := { name := "borderIndex", fn := fun _ => fun
  | [d1, d2, d3] => { results := [.lit (.bool true)], args := [d1, d2, d3] }
  | _ => none }
def borderIndexRow : OpenClaim := { program := "ytghkbfijajpefaa", sum := "2eec76792ece15aec3c2a389192c7bfd7864029b67a13645105e3c96087df34d", func := "anamorph/anamorphlaw08.BorderIndex", spec := "borderIndex", unfollowed := true, recurses := true, apart := false }
def BorderIndexSaid : Prop := borderIndexRow.holds Try.pinned (OpenSpec.ofChange borderIndexSpec)

/-- ITS FALSE NEIGHBOUR: 'it returns false'. Refute it at one input. -/
def borderIndexWrong : ChangeSpec := { name := "borderIndex", fn := fun _ => fun
  | [d1, d2, d3] => { results := [.lit (.bool false)], args := [d1, d2, d3] }
  | _ => none }
def BorderIndexWrongFalsely : Prop := borderIndexRow.holds Try.pinned (OpenSpec.ofChange borderIndexWrong)

/-- 'anamorphlaw08.BorderPeriod': WHATEVER THE INPUT: true; the input reads as it did. -/
def borderPeriodSpec : ChangeSpec := { name := "borderPeriod", fn := fun _ => fun
  | [d] => { results := [.lit (.bool true)], args := [d] }
  | _ => none }
def borderPeriodRow : OpenClaim := { program := "ytghkbfijajpefaa", sum := "2eec76792ece15aec3c2a389192c7bfd7864029b67a13645105e3c96087df34d", func := "anamorph/anamorphlaw08.BorderPeriod", spec := "borderPeriod", unfollowed := true, recurses := true, apart := false }
def BorderPeriodSaid : Prop := borderPeriodRow.holds Try.pinned (OpenSpec.ofChange borderPeriodSpec)

/-- ITS FALSE NEIGHBOUR: 'it returns false'. Refute it at one input. -/
def borderPeriodWrong : ChangeSpec := { name := "borderPeriod", fn := fun _ => fun
  | [d] => { results := [.lit (.bool false)], args := [d] }
  | _ => none }
def BorderPeriodWrongFalsely : Prop := borderPeriodRow.holds Try.pinned (OpenSpec.ofChange borderPeriodWrong)

/-- 'anamorphlaw08.BorderPixels': WHATEVER THE INPUT: true; the input reads as it did. -/
def borderPixelsSpec : ChangeSpec := { name := "borderPixels", fn := fun _ => fun
  | [d1, d2, d3] => { results := [.lit (.bool true)], args := [d1, d2, d3] }
  | _ => none }
def borderPixelsRow : OpenClaim := { program := "ytghkbfijajpefaa", sum := "2eec76792ece15aec3c2a389192c7bfd7864029b67a13645105e3c96087df34d", func := "anamorph/anamorphlaw08.BorderPixels", spec := "borderPixels", unfollowed := true, recurses := true, apart := false }
def BorderPixelsSaid : Prop := borderPixelsRow.holds Try.pinned (OpenSpec.ofChange borderPixelsSpec)

/-- ITS FALSE NEIGHBOUR: 'it returns false'. Refute it at one input. -/
def borderPixelsWrong : ChangeSpec := { name := "borderPixels", fn := fun _ => fun
  | [d1, d2, d3] => { results := [.lit (.bool false)], args := [d1, d2, d3] }
  | _ => none }
def BorderPixelsWrongFalsely : Prop := borderPixelsRow.holds Try.pinned (OpenSpec.ofChange borderPixelsWrong)

/-- 'anamorphlaw09.GridTiles': WHATEVER THE INPUT: true; the input reads as it did. -/
def gridTilesSpec : ChangeSpec := { name := "gridTiles", fn := fun _ => fun
  | [d1, d2] => { results := [.lit (.bool true)], args := [d1, d2] }
  | _ => none }
def gridTilesRow : OpenClaim := { program := "ytghkbfijajpefaa", sum := "2eec76792ece15aec3c2a389192c7bfd7864029b67a13645105e3c96087df34d", func := "anamorph/anamorphlaw09.GridTiles", spec := "gridTiles", apart := false }
def GridTilesSaid : Prop := gridTilesRow.holds Try.pinned (OpenSpec.ofChange gridTilesSpec)

/-- ITS FALSE NEIGHBOUR: 'it returns false'. Refute it at one input. -/
def gridTilesWrong : ChangeSpec := { name := "gridTiles", fn := fun _ => fun
  | [d1, d2] => { results := [.lit (.bool false)], args := [d1, d2] }
  | _ => none }
def GridTilesWrongFalsely : Prop := gridTilesRow.holds Try.pinned (OpenSpec.ofChange gridTilesWrong)

/-- 'anamorphlaw09.GridPlaces': WHATEVER THE INPUT: true; the input reads as it did. -/
def gridPlacesSpec : ChangeSpec := { name := "gridPlaces", fn := fun _ => fun
  | [d1, d2, d3] => { results := [.lit (.bool true)], args := [d1, d2, d3] }
  | _ => none }
def gridPlacesRow : OpenClaim := { program := "ytghkbfijajpefaa", sum := "2eec76792ece15aec3c2a389192c7bfd7864029b67a13645105e3c96087df34d", func := "anamorph/anamorphlaw09.GridPlaces", spec := "gridPlaces", apart := false }
def GridPlacesSaid : Prop := gridPlacesRow.holds Try.pinned (OpenSpec.ofChange gridPlacesSpec)

/-- ITS FALSE NEIGHBOUR: 'it returns false'. Refute it at one input. -/
def gridPlacesWrong : ChangeSpec := { name := "gridPlaces", fn := fun _ => fun
  | [d1, d2, d3] => { results := [.lit (.bool false)], args := [d1, d2, d3] }
  | _ => none }
def GridPlacesWrongFalsely : Prop := gridPlacesRow.holds Try.pinned (OpenSpec.ofChange gridPlacesWrong)

/-- 'anamorphlaw09.GridOver': WHATEVER THE INPUT: true; the input reads as it did. -/
def gridOverSpec : ChangeSpec := { name := "gridOver", fn := fun _ => fun
  | [d1, d2, d3] => { results := [.lit (.bool true)], args := [d1, d2, d3] }
  | _ => none }
def gridOverRow : OpenClaim := { program := "ytghkbfijajpefaa", sum := "2eec76792ece15aec3c2a389192c7bfd7864029b67a13645105e3c96087df34d", func := "anamorph/anamorphlaw09.GridOver", spec := "gridOver", apart := false }
def GridOverSaid : Prop := gridOverRow.holds Try.pinned (OpenSpec.ofChange gridOverSpec)

/-- ITS FALSE NEIGHBOUR: 'it returns false'. Refute it at one input. -/
def gridOverWrong : ChangeSpec := { name := "gridOver", fn := fun _ => fun
  | [d1, d2, d3] => { results := [.lit (.bool false)], args := [d1, d2, d3] }
  | _ => none }
def GridOverWrongFalsely : Prop := gridOverRow.holds Try.pinned (OpenSpec.ofChange gridOverWrong)

/- THE SECOND FORM. 'bulk': how many values and letters a reading holds, each counted each time it is reached (what is shared counts as often as it is met; a slice's spare places count too). A statement '..UptoSaid' is the law's where the arguments, and the package variables that the reading takes, are together of bulk at most 1048576: NARROWER than '..Said'. Prove '..Said' where nothing that the law and all that it calls make is longer than what came in: it says more and counts as full. Else prove '..UptoSaid'. A law counts once. -/
mutual
def uptoBulk {H : Type} : DataW H → Nat
  | .lit (.string bytes) => bytes.length + 1
  | .lit _ => 1
  | .nil => 1
  | .ptr d => uptoBulk d + 1
  | .slice elems spare => uptoBulkAll elems + uptoBulkAll spare + 1
  | .agg parts => uptoBulkAll parts + 1
  | .iface _ d => uptoBulk d + 1
  | .map entries => uptoBulkEntries entries + 1
  | .held _ => 1
def uptoBulkAll {H : Type} : List (DataW H) → Nat
  | [] => 0
  | d :: r => uptoBulk d + uptoBulkAll r
def uptoBulkEntries {H : Type} : List (Lit × DataW H) → Nat
  | [] => 0
  | x :: r => uptoBulkEntry x + uptoBulkEntries r
def uptoBulkEntry {H : Type} : Lit × DataW H → Nat
  | (.string bytes, d) => bytes.length + uptoBulk d + 1
  | (_, d) => uptoBulk d + 1
 end
def uptoSmall : (H : Type) → List (DataW H) → Bool := fun _ ds => decide (uptoBulkAll ds ≤ 1048576)
def OpenSpec.upto (s : _root_.Go.ChangeSpec) : _root_.Go.OpenSpec := { _root_.Go.OpenSpec.ofChange s with cond := some uptoSmall }

/-- 'anamorphlaw08.BorderIndex', WHERE WHAT IT READS IS OF BULK AT MOST 1048576: true; the input reads as it did. -/
def borderIndexUptoRow : OpenClaim := { program := "ytghkbfijajpefaa", sum := "2eec76792ece15aec3c2a389192c7bfd7864029b67a13645105e3c96087df34d", func := "anamorph/anamorphlaw08.BorderIndex", spec := "borderIndex", unfollowed := true, recurses := true, apart := false, narrowed := true }
def BorderIndexUptoSaid : Prop := borderIndexUptoRow.holds Try.pinned (OpenSpec.upto borderIndexSpec)

/-- 'anamorphlaw08.BorderPeriod', WHERE WHAT IT READS IS OF BULK AT MOST 1048576: true; the input reads as it did. -/
def borderPeriodUptoRow : OpenClaim := { program := "ytghkbfijajpefaa", sum := "2eec76792ece15aec3c2a389192c7bfd7864029b67a13645105e3c96087df34d", func := "anamorph/anamorphlaw08.BorderPeriod", spec := "borderPeriod", unfollowed := true, recurses := true, apart := false, narrowed := true }
def BorderPeriodUptoSaid : Prop := borderPeriodUptoRow.holds Try.pinned (OpenSpec.upto borderPeriodSpec)

/-- 'anamorphlaw08.BorderPixels', WHERE WHAT IT READS IS OF BULK AT MOST 1048576: true; the input reads as it did. -/
def borderPixelsUptoRow : OpenClaim := { program := "ytghkbfijajpefaa", sum := "2eec76792ece15aec3c2a389192c7bfd7864029b67a13645105e3c96087df34d", func := "anamorph/anamorphlaw08.BorderPixels", spec := "borderPixels", unfollowed := true, recurses := true, apart := false, narrowed := true }
def BorderPixelsUptoSaid : Prop := borderPixelsUptoRow.holds Try.pinned (OpenSpec.upto borderPixelsSpec)

/-- 'anamorphlaw09.GridTiles', WHERE WHAT IT READS IS OF BULK AT MOST 1048576: true; the input reads as it did. -/
def gridTilesUptoRow : OpenClaim := { program := "ytghkbfijajpefaa", sum := "2eec76792ece15aec3c2a389192c7bfd7864029b67a13645105e3c96087df34d", func := "anamorph/anamorphlaw09.GridTiles", spec := "gridTiles", apart := false, narrowed := true }
def GridTilesUptoSaid : Prop := gridTilesUptoRow.holds Try.pinned (OpenSpec.upto gridTilesSpec)

/-- 'anamorphlaw09.GridPlaces', WHERE WHAT IT READS IS OF BULK AT MOST 1048576: true; the input reads as it did. -/
def gridPlacesUptoRow : OpenClaim := { program := "ytghkbfijajpefaa", sum := "2eec76792ece15aec3c2a389192c7bfd7864029b67a13645105e3c96087df34d", func := "anamorph/anamorphlaw09.GridPlaces", spec := "gridPlaces", apart := false, narrowed := true }
def GridPlacesUptoSaid : Prop := gridPlacesUptoRow.holds Try.pinned (OpenSpec.upto gridPlacesSpec)

/-- 'anamorphlaw09.GridOver', WHERE WHAT IT READS IS OF BULK AT MOST 1048576: true; the input reads as it did. -/
def gridOverUptoRow : OpenClaim := { program := "ytghkbfijajpefaa", sum := "2eec76792ece15aec3c2a389192c7bfd7864029b67a13645105e3c96087df34d", func := "anamorph/anamorphlaw09.GridOver", spec := "gridOver", apart := false, narrowed := true }
def GridOverUptoSaid : Prop := gridOverUptoRow.holds Try.pinned (OpenSpec.upto gridOverSpec)

end Rows
end Go.Proofs.Ytghkbfijajpefaa
