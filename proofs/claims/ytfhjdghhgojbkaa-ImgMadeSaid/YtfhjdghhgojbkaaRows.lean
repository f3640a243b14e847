/-
  No cell of these rows narrows 'for every input' (looked for: loops, veiled, ifaces, maps, wideKeys, modest, calm, conditions, laid).
  DERIVED. THE GIVEN ROWS OF THIS SEAT. 9 by the template 'for every input the law returns true; each argument reads behind the call as it read before'; 0 by the template 'total and deterministic' (their statements: YtfhjdghhgojbkaaTotals.lean).
  GIVEN WITH THE SEED: the statements are not yours to turn. If you find one false, say at which input.
  Laid BY PROGRAM, IN A SANDBOX (cutbox-rows.mjs): the forced cells as the released guide's own fill.sh prints them over the translation 26610271363ad576… (all of the seat's roots in one cut). By AI agents, Wed Nov 11 2026. No macro, syntax, notation, axiom, sorry.
-/
import Derived.Test.YtfhjdghhgojbkaaChecked
import GoSem.Claim
import GoSem.ClaimJoined
import GoSem.ClaimMapViews
import Derived.JoinedTies
import Derived.KernelRfl
namespace Go.Proofs.Ytfhjdghhgojbkaa
/- THE CELL 'sum', in the pinned program and in every row, IS THE sha256 OF THE DUMP (.gsa) THAT YtfhjdghhgojbkaaProg.lean LOADS. Nothing in Lean hashes anything: it is a label: what it is worth is what the hold of that sum in a sandbox is worth. -/
noncomputable def Try.pinned : Pinned := { name := "ytfhjdghhgojbkaa", sum := "26610271363ad576b5315249ba962333e8cad78ada068d5b815a8d468c1d0d70", checked := Try.checked }
namespace Rows
def none {H : Type} : Left H := { results := [], args := [] }

/-- 'anamorphlaw06.RectOnes': WHATEVER THE INPUT: true; the input reads as it did. -/
def rectOnesSpec : ChangeSpec := { name := "rectOnes", fn := fun _ => fun
  | [d1, d2, d3] => { results := [.lit (.bool true)], args := [d1, d2, d3] }
  | _ => none }
def rectOnesRow : OpenClaim := { program := "ytfhjdghhgojbkaa", sum := "26610271363ad576b5315249ba962333e8cad78ada068d5b815a8d468c1d0d70", func := "anamorph/anamorphlaw06.RectOnes", spec := "rectOnes", apart := false }
def RectOnesSaid : Prop := rectOnesRow.holds Try.pinned (OpenSpec.ofChange rectOnesSpec)

/-- ITS FALSE NEIGHBOUR: 'it returns false'. Refute it at one input. -/
def rectOnesWrong : ChangeSpec := { name := "rectOnes", fn := fun _ => fun
  | [d1, d2, d3] => { results := [.lit (.bool false)], args := [d1, d2, d3] }
  | _ => none }
def RectOnesWrongFalsely : Prop := rectOnesRow.holds Try.pinned (OpenSpec.ofChange rectOnesWrong)

/-- 'anamorphlaw06.RectTwos': WHATEVER THE INPUT: true; the input reads as it did. -/
def rectTwosSpec : ChangeSpec := { name := "rectTwos", fn := fun _ => fun
  | [d1, d2] => { results := [.lit (.bool true)], args := [d1, d2] }
  | _ => none }
def rectTwosRow : OpenClaim := { program := "ytfhjdghhgojbkaa", sum := "26610271363ad576b5315249ba962333e8cad78ada068d5b815a8d468c1d0d70", func := "anamorph/anamorphlaw06.RectTwos", spec := "rectTwos", apart := false }
def RectTwosSaid : Prop := rectTwosRow.holds Try.pinned (OpenSpec.ofChange rectTwosSpec)

/-- ITS FALSE NEIGHBOUR: 'it returns false'. Refute it at one input. -/
def rectTwosWrong : ChangeSpec := { name := "rectTwos", fn := fun _ => fun
  | [d1, d2] => { results := [.lit (.bool false)], args := [d1, d2] }
  | _ => none }
def RectTwosWrongFalsely : Prop := rectTwosRow.holds Try.pinned (OpenSpec.ofChange rectTwosWrong)

/-- 'anamorphlaw06.RectHas': WHATEVER THE INPUT: true; the input reads as it did. -/
def rectHasSpec : ChangeSpec := { name := "rectHas", fn := fun _ => fun
  | [d1, d2, d3] => { results := [.lit (.bool true)], args := [d1, d2, d3] }
  | _ => none }
def rectHasRow : OpenClaim := { program := "ytfhjdghhgojbkaa", sum := "26610271363ad576b5315249ba962333e8cad78ada068d5b815a8d468c1d0d70", func := "anamorph/anamorphlaw06.RectHas", spec := "rectHas", apart := false }
def RectHasSaid : Prop := rectHasRow.holds Try.pinned (OpenSpec.ofChange rectHasSpec)

/-- ITS FALSE NEIGHBOUR: 'it returns false'. Refute it at one input. -/
def rectHasWrong : ChangeSpec := { name := "rectHas", fn := fun _ => fun
  | [d1, d2, d3] => { results := [.lit (.bool false)], args := [d1, d2, d3] }
  | _ => none }
def RectHasWrongFalsely : Prop := rectHasRow.holds Try.pinned (OpenSpec.ofChange rectHasWrong)

/-- 'anamorphlaw06.RectPlaces': WHATEVER THE INPUT: true; the input reads as it did. -/
def rectPlacesSpec : ChangeSpec := { name := "rectPlaces", fn := fun _ => fun
  | [d1, d2] => { results := [.lit (.bool true)], args := [d1, d2] }
  | _ => none }
def rectPlacesRow : OpenClaim := { program := "ytfhjdghhgojbkaa", sum := "26610271363ad576b5315249ba962333e8cad78ada068d5b815a8d468c1d0d70", func := "anamorph/anamorphlaw06.RectPlaces", spec := "rectPlaces", unfollowed := true, recurses := true, apart := false }
def RectPlacesSaid : Prop := rectPlacesRow.holds Try.pinned (OpenSpec.ofChange rectPlacesSpec)

/-- ITS FALSE NEIGHBOUR: 'it returns false'. Refute it at one input. -/
def rectPlacesWrong : ChangeSpec := { name := "rectPlaces", fn := fun _ => fun
  | [d1, d2] => { results := [.lit (.bool false)], args := [d1, d2] }
  | _ => none }
def RectPlacesWrongFalsely : Prop := rectPlacesRow.holds Try.pinned (OpenSpec.ofChange rectPlacesWrong)

/-- 'anamorphlaw07.ImgChecks': WHATEVER THE INPUT: true; the input reads as it did. -/
def imgChecksSpec : ChangeSpec := { name := "imgChecks", fn := fun _ => fun
  | [d1, d2] => { results := [.lit (.bool true)], args := [d1, d2] }
  | _ => none }
def imgChecksRow : OpenClaim := { program := "ytfhjdghhgojbkaa", sum := "26610271363ad576b5315249ba962333e8cad78ada068d5b815a8d468c1d0d70", func := "anamorph/anamorphlaw07.ImgChecks", spec := "imgChecks", apart := false }
def ImgChecksSaid : Prop := imgChecksRow.holds Try.pinned (OpenSpec.ofChange imgChecksSpec)

/-- ITS FALSE NEIGHBOUR: 'it returns false'. Refute it at one input. -/
def imgChecksWrong : ChangeSpec := { name := "imgChecks", fn := fun _ => fun
  | [d1, d2] => { results := [.lit (.bool false)], args := [d1, d2] }
  | _ => none }
def ImgChecksWrongFalsely : Prop := imgChecksRow.holds Try.pinned (OpenSpec.ofChange imgChecksWrong)

/-- 'anamorphlaw07.ImgMade': WHATEVER THE INPUT: true; the input reads as it did. -/
def imgMadeSpec : ChangeSpec := { name := "imgMade", fn := fun _ => fun
  | [d1, d2, d3] => { results := [.lit (.bool true)], args := [d1, d2, d3] }
  | _ => none }
def imgMadeRow : OpenClaim := { program := "ytfhjdghhgojbkaa", sum := "26610271363ad576b5315249ba962333e8cad78ada068d5b815a8d468c1d0d70", func := "anamorph/anamorphlaw07.ImgMade", spec := "imgMade", unfollowed := true, recurses := true, apart := false }
def ImgMadeSaid : Prop := imgMadeRow.holds Try.pinned (OpenSpec.ofChange imgMadeSpec)

/-- ITS FALSE NEIGHBOUR: 'it returns false'. Refute it at one input. -/
def imgMadeWrong : ChangeSpec := { name := "imgMade", fn := fun _ => fun
  | [d1, d2, d3] => { results := [.lit (.bool false)], args := [d1, d2, d3] }
  | _ => none }
def ImgMadeWrongFalsely : Prop := imgMadeRow.holds Try.pinned (OpenSpec.ofChange imgMadeWrong)

/-- 'anamorphlaw07.ImgPixels': WHATEVER THE INPUT: true; the input reads as it did. -/
def imgPixelsSpec : ChangeSpec := { name := "imgPixels", fn := fun _ => fun
  | [d1, d2, d3] => { results := [.lit (.bool true)], args := [d1, d2, d3] }
  | _ => none }
def imgPixelsRow : OpenClaim := { program := "ytfhjdghhgojbkaa", sum := "26610271363ad576b5315249ba962333e8cad78ada068d5b815a8d468c1d0d70", func := "anamorph/anamorphlaw07.ImgPixels", spec := "imgPixels", apart := false }
def ImgPixelsSaid : Prop := imgPixelsRow.holds Try.pinned (OpenSpec.ofChange imgPixelsSpec)

/-- ITS FALSE NEIGHBOUR: 'it returns false'. Refute it at one input. -/
def imgPixelsWrong : ChangeSpec := { name := "imgPixels", fn := fun _ => fun
  | [d1, d2, d3] => { results := [.lit (.bool false)], args := [d1, d2, d3] }
  | _ => none }
def ImgPixelsWrongFalsely : Prop := imgPixelsRow.holds Try.pinned (OpenSpec.ofChange imgPixelsWrong)

/-- 'anamorphlaw07.ImgParts': WHATEVER THE INPUT: true; the input reads as it did. -/
def imgPartsSpec : ChangeSpec := { name := "imgParts", fn := fun _ => fun
  | [d1, d2] => { results := [.lit (.bool true)], args := [d1, d2] }
  | _ => none }
def imgPartsRow : OpenClaim := { program := "ytfhjdghhgojbkaa", sum := "26610271363ad576b5315249ba962333e8cad78ada068d5b815a8d468c1d0d70", func := "anamorph/anamorphlaw07.ImgParts", spec := "imgParts", apart := false }
def ImgPartsSaid : Prop := imgPartsRow.holds Try.pinned (OpenSpec.ofChange imgPartsSpec)

/-- ITS FALSE NEIGHBOUR: 'it returns false'. Refute it at one input. -/
def imgPartsWrong : ChangeSpec := { name := "imgParts", fn := fun _ => fun
  | [d1, d2] => { results := [.lit (.bool false)], args := [d1, d2] }
  | _ => none }
def ImgPartsWrongFalsely : Prop := imgPartsRow.holds Try.pinned (OpenSpec.ofChange imgPartsWrong)

/-- 'anamorphlaw07.ImgPastes': WHATEVER THE INPUT: true; the input reads as it did. -/
def imgPastesSpec : ChangeSpec := { name := "imgPastes", fn := fun _ => fun
  | [d1, d2, d3] => { results := [.lit (.bool true)], args := [d1, d2, d3] }
  | _ => none }
def imgPastesRow : OpenClaim := { program := "ytfhjdghhgojbkaa", sum := "26610271363ad576b5315249ba962333e8cad78ada068d5b815a8d468c1d0d70", func := "anamorph/anamorphlaw07.ImgPastes", spec := "imgPastes", apart := false }
def ImgPastesSaid : Prop := imgPastesRow.holds Try.pinned (OpenSpec.ofChange imgPastesSpec)

/-- ITS FALSE NEIGHBOUR: 'it returns false'. Refute it at one input. -/
def imgPastesWrong : ChangeSpec := { name := "imgPastes", fn := fun _ => fun
  | [d1, d2, d3] => { results := [.lit (.bool false)], args := [d1, d2, d3] }
  | _ => none }
def ImgPastesWrongFalsely : Prop := imgPastesRow.holds Try.pinned (OpenSpec.ofChange imgPastesWrong)

/- THE SECOND FORM. 'bulk': how many values and letters a reading holds, each counted each time it is reached (what is shared counts as often as it is met; a slice's spare places count too). A statement '..UptoSaid' is the law's where the arguments, and the package variables that the reading takes, are together of bulk at most 1048576: NARROWER than '..Said'. Prove '..Said' where nothing that the law and all that it calls make is longer than what came in: it says more and counts as full. Else prove '..UptoSaid'. A law counts once. -/
mutual
def uptoBulk {H : Type} : DataW H → Nat
  | .lit (.string bytes) => bytes.length + 1
  | .lit _ => 1
  | .nil => 1
  | .ptr d => uptoBulk d + 1
  | .slice elems spare => uptoBulkAll elems + uptoBulkAll spare + 1
  | .agg parts => uptoBulkAll parts + 1
  | .iface _ d => uptoBulk d + 1
  | .map entries => uptoBulkEntries entries + 1
  | .held _ => 1
def uptoBulkAll {H : Type} : List (DataW H) → Nat
  | [] => 0
  | d :: r => uptoBulk d + uptoBulkAll r
def uptoBulkEntries {H : Type} : List (Lit × DataW H) → Nat
  | [] => 0
  | x :: r => uptoBulkEntry x + uptoBulkEntries r
def uptoBulkEntry {H : Type} : Lit × DataW H → Nat
  | (.string bytes, d) => bytes.length + uptoBulk d + 1
  | (_, d) => uptoBulk d + 1
 end
def uptoSmall : (H : Type) → List (DataW H) → Bool := fun _ ds => decide (uptoBulkAll ds ≤ 1048576)
def OpenSpec.upto (s : _root_.Go.ChangeSpec) : _root_.Go.OpenSpec := { _root_.Go.OpenSpec.ofChange s with cond := some uptoSmall }

/-- 'anamorphlaw06.RectOnes', WHERE WHAT IT READS IS OF BULK AT MOST 1048576: true; the input reads as it did. -/
def rectOnesUptoRow : OpenClaim := { program := "ytfhjdghhgojbkaa", sum := "26610271363ad576b5315249ba962333e8cad78ada068d5b815a8d468c1d0d70", func := "anamorph/anamorphlaw06.RectOnes", spec := "rectOnes", apart := false, narrowed := true }
def RectOnesUptoSaid : Prop := rectOnesUptoRow.holds Try.pinned (OpenSpec.upto rectOnesSpec)

/-- 'anamorphlaw06.RectTwos', WHERE WHAT IT READS IS OF BULK AT MOST 1048576: true; the input reads as it did. -/
def rectTwosUptoRow : OpenClaim := { program := "ytfhjdghhgojbkaa", sum := "26610271363ad576b5315249ba962333e8cad78ada068d5b815a8d468c1d0d70", func := "anamorph/anamorphlaw06.RectTwos", spec := "rectTwos", apart := false, narrowed := true }
def RectTwosUptoSaid : Prop := rectTwosUptoRow.holds Try.pinned (OpenSpec.upto rectTwosSpec)

/-- 'anamorphlaw06.RectHas', WHERE WHAT IT READS IS OF BULK AT MOST 1048576: true; the input reads as it did. -/
def rectHasUptoRow : OpenClaim := { program := "ytfhjdghhgojbkaa", sum := "26610271363ad576b5315249ba962333e8cad78ada068d5b815a8d468c1d0d70", func := "anamorph/anamorphlaw06.RectHas", spec := "rectHas", apart := false, narrowed := true }
def RectHasUptoSaid : Prop := rectHasUptoRow.holds Try.pinned (OpenSpec.upto rectHasSpec)

/-- 'anamorphlaw06.RectPlaces', WHERE WHAT IT READS IS OF BULK AT MOST 1048576: true; the input reads as it did. -/
def rectPlacesUptoRow : OpenClaim := { program := "ytfhjdghhgojbkaa", sum := "26610271363ad576b5315249ba962333e8cad78ada068d5b815a8d468c1d0d70", func := "anamorph/anamorphlaw06.RectPlaces", spec := "rectPlaces", unfollowed := true, recurses := true, apart := false, narrowed := true }
def RectPlacesUptoSaid : Prop := rectPlacesUptoRow.holds Try.pinned (OpenSpec.upto rectPlacesSpec)

/-- 'anamorphlaw07.ImgChecks', WHERE WHAT IT READS IS OF BULK AT MOST 1048576: true; the input reads as it did. -/
def imgChecksUptoRow : OpenClaim := { program := "ytfhjdghhgojbkaa", sum := "26610271363ad576b5315249ba962333e8cad78ada068d5b815a8d468c1d0d70", func := "anamorph/anamorphlaw07.ImgChecks", spec := "imgChecks", apart := false, narrowed := true }
def ImgChecksUptoSaid : Prop := imgChecksUptoRow.holds Try.pinned (OpenSpec.upto imgChecksSpec)

/-- 'anamorphlaw07.ImgMade', WHERE WHAT IT READS IS OF BULK AT MOST 1048576: true; the input reads as it did. -/
def imgMadeUptoRow : OpenClaim := { program := "ytfhjdghhgojbkaa", sum := "26610271363ad576b5315249ba962333e8cad78ada068d5b815a8d468c1d0d70", func := "anamorph/anamorphlaw07.ImgMade", spec := "imgMade", unfollowed := true, recurses := true, apart := false, narrowed := true }
def ImgMadeUptoSaid : Prop := imgMadeUptoRow.holds Try.pinned (OpenSpec.upto imgMadeSpec)

/-- 'anamorphlaw07.ImgPixels', WHERE WHAT IT READS IS OF BULK AT MOST 1048576: true; the input reads as it did. -/
def imgPixelsUptoRow : OpenClaim := { program := "ytfhjdghhgojbkaa", sum := "26610271363ad576b5315249ba962333e8cad78ada068d5b815a8d468c1d0d70", func := "anamorph/anamorphlaw07.ImgPixels", spec := "imgPixels", apart := false, narrowed := true }
def ImgPixelsUptoSaid : Prop := imgPixelsUptoRow.holds Try.pinned (OpenSpec.upto imgPixelsSpec)

/-- 'anamorphlaw07.ImgParts', WHERE WHAT IT READS IS OF BULK AT MOST 1048576: true; the input reads as it did. -/
def imgPartsUptoRow : OpenClaim := { program := "ytfhjdghhgojbkaa", sum := "26610271363ad576b5315249ba962333e8cad78ada068d5b815a8d468c1d0d70", func := "anamorph/anamorphlaw07.ImgParts", spec := "imgParts", apart := false, narrowed := true }
def ImgPartsUptoSaid : Prop := imgPartsUptoRow.holds Try.pinned (OpenSpec.upto imgPartsSpec)

/-- 'anamorphlaw07.ImgPastes', WHERE WHAT IT READS IS OF BULK AT MOST 1048576: true; the input reads as it did. -/
def imgPastesUptoRow : OpenClaim := { program := "ytfhjdghhgojbkaa", sum := "26610271363ad576b5315249ba962333e8cad78ada068d5b815a8d468c1d0d70", func := "anamorph/anamorphlaw07.ImgPastes", spec := "imgPastes", apart := false, narrowed := true }
def ImgPastesUptoSaid : Prop := imgPastesUptoRow.holds Try.pinned (OpenSpec.upto imgPastesSpec)

end Rows
end Go.Proofs.Ytfhjdghhgojbkaa
