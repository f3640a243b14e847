/-
  No cell of these rows narrows 'for every input' (looked for: loops, veiled, ifaces, maps, wideKeys, modest, calm, conditions, laid).
  DERIVED. THE GIVEN ROWS OF THIS SEAT. 9 by the template 'for every input the law returns true; each argument reads behind the call as it read before'; 0 by the template 'total and deterministic' (their statements: YtnpjnegelhaaaaaTotals.lean).
  GIVEN WITH THE SEED: the statements are not yours to turn. If you find one false, say at which input.
  Laid BY PROGRAM, IN A SANDBOX (cutbox-rows.mjs): the forced cells as the released guide's own fill.sh prints them over the translation 1c99bdaffe836f25… (all of the seat's roots in one cut). By AI agents, Wed Nov 11 2026. No macro, syntax, notation, axiom, sorry.
-/
import Derived.Test.YtnpjnegelhaaaaaChecked
import GoSem.Claim
import GoSem.ClaimJoined
import GoSem.ClaimMapViews
import Derived.JoinedTies
import Derived.KernelRfl
namespace Go.Proofs.Ytnpjnegelhaaaaa
/- THE CELL 'sum', in the pinned program and in every row, IS THE sha256 OF THE DUMP (.gsa) THAT YtnpjnegelhaaaaaProg.lean LOADS. Nothing in Lean hashes anything: it is a label: what it is worth is what the hold of that sum in a sandbox is worth. -/
noncomputable def Try.pinned : Pinned := { name := "ytnpjnegelhaaaaa", sum := "1c99bdaffe836f256e92e18f2082c66bb72793f4e8fdc7ca5e9f1eeff7cdb7b7", checked := Try.checked }
namespace Rows
def none {H : Type} : Left H := { results := [], args := [] }

/-- 'anamorphlaw10.PermMakes': WHATEVER THE INPUT: true; the input reads as it did. -/
def permMakesSpec : ChangeSpec := { name := "permMakes", fn := fun _ => fun
  | [d1, d2, d3] => { results := [.lit (.bool true)], args := [d1, d2, d3] }
  | _ => none }
def permMakesRow : OpenClaim := { program := "ytnpjnegelhaaaaa", sum := "1c99bdaffe836f256e92e18f2082c66bb72793f4e8fdc7ca5e9f1eeff7cdb7b7", func := "anamorph/anamorphlaw10.PermMakes", spec := "permMakes", unfollowed := true, recurses := true, apart := false }
def PermMakesSaid : Prop := permMakesRow.holds Try.pinned (OpenSpec.ofChange permMakesSpec)

/-- ITS FALSE NEIGHBOUR: 'it returns false'. Refute it at one input. -/
def permMakesWrong : ChangeSpec := { name := "permMakes", fn := fun _ => fun
  | [d1, d2, d3] => { results := [.lit (.bool false)], args := [d1, d2, d3] }
  | _ => none }
def PermMakesWrongFalsely : Prop := permMakesRow.holds Try.pinned (OpenSpec.ofChange permMakesWrong)

/-- 'anamorphlaw10.PermIs': WHATEVER THE INPUT: true; the input reads as it did. -/
def permIsSpec : ChangeSpec := { name := "permIs", fn := fun _ => fun
  | [d1, d2, d3] => { results := [.lit (.bool true)], args := [d1, d2, d3] }
  | _ => none }
def permIsRow : OpenClaim := { program := "ytnpjnegelhaaaaa", sum := "1c99bdaffe836f256e92e18f2082c66bb72793f4e8fdc7ca5e9f1eeff7cdb7b7", func := "anamorph/anamorphlaw10.PermIs", spec := "permIs", unfollowed := true, recurses := true, apart := false }
def PermIsSaid : Prop := permIsRow.holds Try.pinned (OpenSpec.ofChange permIsSpec)

/-- ITS FALSE NEIGHBOUR: 'it returns false'. Refute it at one input. -/
def permIsWrong : ChangeSpec := { name := "permIs", fn := fun _ => fun
  | [d1, d2, d3] => { results := [.lit (.bool false)], args := [d1, d2, d3] }
  | _ => none }
def PermIsWrongFalsely : Prop := permIsRow.holds Try.pinned (OpenSpec.ofChange permIsWrong)

/-- 'anamorphlaw10.PermTurns': WHATEVER THE INPUT: true; the input reads as it did. -/
def permTurnsSpec : ChangeSpec := { name := "permTurns", fn := fun _ => fun
  | [d1, d2, d3] => { results := [.lit (.bool true)], args := [d1, d2, d3] }
  | _ => none }
def permTurnsRow : OpenClaim := { program := "ytnpjnegelhaaaaa", sum := "1c99bdaffe836f256e92e18f2082c66bb72793f4e8fdc7ca5e9f1eeff7cdb7b7", func := "anamorph/anamorphlaw10.PermTurns", spec := "permTurns", unfollowed := true, recurses := true, apart := false }
def PermTurnsSaid : Prop := permTurnsRow.holds Try.pinned (OpenSpec.ofChange permTurnsSpec)

/-- ITS FALSE NEIGHBOUR: 'it returns false'. Refute it at one input. -/
def permTurnsWrong : ChangeSpec := { name := "permTurns", fn := fun _ => fun
  | [d1, d2, d3] => { results := [.lit (.bool false)], args := [d1, d2, d3] }
  | _ => none }
def PermTurnsWrongFalsely : Prop := permTurnsRow.holds Try.pinned (OpenSpec.ofChange permTurnsWrong)

/-- 'anamorphlaw11.TintTells': WHATEVER THE INPUT: true; the input reads as it did. -/
def tintTellsSpec : ChangeSpec := { name := "tintTells", fn := fun _ => fun
  | [d1, d2, d3] => { results := [.lit (.bool true)], args := [d1, d2, d3] }
  | _ => none }
def tintTellsRow : OpenClaim := { program := "ytnpjnegelhaaaaa", sum := "1c99bdaffe836f256e92e18f2082c66bb72793f4e8fdc7ca5e9f1eeff7cdb7b7", func := "anamorph/anamorphlaw11.TintTells", spec := "tintTells", unfollowed := true, recurses := true, apart := false }
def TintTellsSaid : Prop := tintTellsRow.holds Try.pinned (OpenSpec.ofChange tintTellsSpec)

/-- ITS FALSE NEIGHBOUR: 'it returns false'. Refute it at one input. -/
def tintTellsWrong : ChangeSpec := { name := "tintTells", fn := fun _ => fun
  | [d1, d2, d3] => { results := [.lit (.bool false)], args := [d1, d2, d3] }
  | _ => none }
def TintTellsWrongFalsely : Prop := tintTellsRow.holds Try.pinned (OpenSpec.ofChange tintTellsWrong)

/-- 'anamorphlaw11.TintJoins': WHATEVER THE INPUT: true; the input reads as it did. -/
def tintJoinsSpec : ChangeSpec := { name := "tintJoins", fn := fun _ => fun
  | [d] => { results := [.lit (.bool true)], args := [d] }
  | _ => none }
def tintJoinsRow : OpenClaim := { program := "ytnpjnegelhaaaaa", sum := "1c99bdaffe836f256e92e18f2082c66bb72793f4e8fdc7ca5e9f1eeff7cdb7b7", func := "anamorph/anamorphlaw11.TintJoins", spec := "tintJoins", unfollowed := true, recurses := true, apart := false }
def TintJoinsSaid : Prop := tintJoinsRow.holds Try.pinned (OpenSpec.ofChange tintJoinsSpec)

/-- ITS FALSE NEIGHBOUR: 'it returns false'. Refute it at one input. -/
def tintJoinsWrong : ChangeSpec := { name := "tintJoins", fn := fun _ => fun
  | [d] => { results := [.lit (.bool false)], args := [d] }
  | _ => none }
def TintJoinsWrongFalsely : Prop := tintJoinsRow.holds Try.pinned (OpenSpec.ofChange tintJoinsWrong)

/-- 'anamorphlaw11.TintBack': WHATEVER THE INPUT: true; the input reads as it did. -/
def tintBackSpec : ChangeSpec := { name := "tintBack", fn := fun _ => fun
  | [d1, d2] => { results := [.lit (.bool true)], args := [d1, d2] }
  | _ => none }
def tintBackRow : OpenClaim := { program := "ytnpjnegelhaaaaa", sum := "1c99bdaffe836f256e92e18f2082c66bb72793f4e8fdc7ca5e9f1eeff7cdb7b7", func := "anamorph/anamorphlaw11.TintBack", spec := "tintBack", unfollowed := true, recurses := true, apart := false }
def TintBackSaid : Prop := tintBackRow.holds Try.pinned (OpenSpec.ofChange tintBackSpec)

/-- ITS FALSE NEIGHBOUR: 'it returns false'. Refute it at one input. -/
def tintBackWrong : ChangeSpec := { name := "tintBack", fn := fun _ => fun
  | [d1, d2] => { results := [.lit (.bool false)], args := [d1, d2] }
  | _ => none }
def TintBackWrongFalsely : Prop := tintBackRow.holds Try.pinned (OpenSpec.ofChange tintBackWrong)

/-- 'anamorphlaw12.HashTells': WHATEVER THE INPUT: true; the input reads as it did. -/
def hashTellsSpec : ChangeSpec := { name := "hashTells", fn := fun _ => fun
  | [d1, d2, d3] => { results := [.lit (.bool true)], args := [d1, d2, d3] }
  | _ => none }
def hashTellsRow : OpenClaim := { program := "ytnpjnegelhaaaaa", sum := "1c99bdaffe836f256e92e18f2082c66bb72793f4e8fdc7ca5e9f1eeff7cdb7b7", func := "anamorph/anamorphlaw12.HashTells", spec := "hashTells", apart := false }
def HashTellsSaid : Prop := hashTellsRow.holds Try.pinned (OpenSpec.ofChange hashTellsSpec)

/-- ITS FALSE NEIGHBOUR: 'it returns false'. Refute it at one input. -/
def hashTellsWrong : ChangeSpec := { name := "hashTells", fn := fun _ => fun
  | [d1, d2, d3] => { results := [.lit (.bool false)], args := [d1, d2, d3] }
  | _ => none }
def HashTellsWrongFalsely : Prop := hashTellsRow.holds Try.pinned (OpenSpec.ofChange hashTellsWrong)

/-- 'anamorphlaw12.HashPieces': WHATEVER THE INPUT: true; the input reads as it did. -/
def hashPiecesSpec : ChangeSpec := { name := "hashPieces", fn := fun _ => fun
  | [d] => { results := [.lit (.bool true)], args := [d] }
  | _ => none }
def hashPiecesRow : OpenClaim := { program := "ytnpjnegelhaaaaa", sum := "1c99bdaffe836f256e92e18f2082c66bb72793f4e8fdc7ca5e9f1eeff7cdb7b7", func := "anamorph/anamorphlaw12.HashPieces", spec := "hashPieces", apart := false }
def HashPiecesSaid : Prop := hashPiecesRow.holds Try.pinned (OpenSpec.ofChange hashPiecesSpec)

/-- ITS FALSE NEIGHBOUR: 'it returns false'. Refute it at one input. -/
def hashPiecesWrong : ChangeSpec := { name := "hashPieces", fn := fun _ => fun
  | [d] => { results := [.lit (.bool false)], args := [d] }
  | _ => none }
def HashPiecesWrongFalsely : Prop := hashPiecesRow.holds Try.pinned (OpenSpec.ofChange hashPiecesWrong)

/-- 'anamorphlaw12.HashApart': WHATEVER THE INPUT: true; the input reads as it did. -/
def hashApartSpec : ChangeSpec := { name := "hashApart", fn := fun _ => fun
  | [d1, d2, d3] => { results := [.lit (.bool true)], args := [d1, d2, d3] }
  | _ => none }
def hashApartRow : OpenClaim := { program := "ytnpjnegelhaaaaa", sum := "1c99bdaffe836f256e92e18f2082c66bb72793f4e8fdc7ca5e9f1eeff7cdb7b7", func := "anamorph/anamorphlaw12.HashApart", spec := "hashApart", apart := false }
def HashApartSaid : Prop := hashApartRow.holds Try.pinned (OpenSpec.ofChange hashApartSpec)

/-- ITS FALSE NEIGHBOUR: 'it returns false'. Refute it at one input. -/
def hashApartWrong : ChangeSpec := { name := "hashApart", fn := fun _ => fun
  | [d1, d2, d3] => { results := [.lit (.bool false)], args := [d1, d2, d3] }
  | _ => none }
def HashApartWrongFalsely : Prop := hashApartRow.holds Try.pinned (OpenSpec.ofChange hashApartWrong)

/- THE SECOND FORM. 'bulk': how many values and letters a reading holds, each counted each time it is reached (what is shared counts as often as it is met; a slice's spare places count too). A statement '..UptoSaid' is the law's where the arguments, and the package variables that the reading takes, are together of bulk at most 1048576: NARROWER than '..Said'. Prove '..Said' where nothing that the law and all that it calls make is longer than what came in: it says more and counts as full. Else prove '..UptoSaid'. A law counts once. -/
mutual
def uptoBulk {H : Type} : DataW H → Nat
  | .lit (.string bytes) => bytes.length + 1
  | .lit _ => 1
  | .nil => 1
  | .ptr d => uptoBulk d + 1
  | .slice elems spare => uptoBulkAll elems + uptoBulkAll spare + 1
  | .agg parts => uptoBulkAll parts + 1
  | .iface _ d => uptoBulk d + 1
  | .map entries => uptoBulkEntries entries + 1
  | .held _ => 1
def uptoBulkAll {H : Type} : List (DataW H) → Nat
  | [] => 0
  | d :: r => uptoBulk d + uptoBulkAll r
def uptoBulkEntries {H : Type} : List (Lit × DataW H) → Nat
  | [] => 0
  | x :: r => uptoBulkEntry x + uptoBulkEntries r
def uptoBulkEntry {H : Type} : Lit × DataW H → Nat
  | (.string bytes, d) => bytes.length + uptoBulk d + 1
  | (_, d) => uptoBulk d + 1
 end
def uptoSmall : (H : Type) → List (DataW H) → Bool := fun _ ds => decide (uptoBulkAll ds ≤ 1048576)
def OpenSpec.upto (s : _root_.Go.ChangeSpec) : _root_.Go.OpenSpec := { _root_.Go.OpenSpec.ofChange s with cond := some uptoSmall }

/-- 'anamorphlaw10.PermMakes', WHERE WHAT IT READS IS OF BULK AT MOST 1048576: true; the input reads as it did. -/
def permMakesUptoRow : OpenClaim := { program := "ytnpjnegelhaaaaa", sum := "1c99bdaffe836f256e92e18f2082c66bb72793f4e8fdc7ca5e9f1eeff7cdb7b7", func := "anamorph/anamorphlaw10.PermMakes", spec := "permMakes", unfollowed := true, recurses := true, apart := false, narrowed := true }
def PermMakesUptoSaid : Prop := permMakesUptoRow.holds Try.pinned (OpenSpec.upto permMakesSpec)

/-- 'anamorphlaw10.PermIs', WHERE WHAT IT READS IS OF BULK AT MOST 1048576: true; the input reads as it did. -/
def permIsUptoRow : OpenClaim := { program := "ytnpjnegelhaaaaa", sum := "1c99bdaffe836f256e92e18f2082c66bb72793f4e8fdc7ca5e9f1eeff7cdb7b7", func := "anamorph/anamorphlaw10.PermIs", spec := "permIs", unfollowed := true, recurses := true, apart := false, narrowed := true }
def PermIsUptoSaid : Prop := permIsUptoRow.holds Try.pinned (OpenSpec.upto permIsSpec)

/-- 'anamorphlaw10.PermTurns', WHERE WHAT IT READS IS OF BULK AT MOST 1048576: true; the input reads as it did. -/
def permTurnsUptoRow : OpenClaim := { program := "ytnpjnegelhaaaaa", sum := "1c99bdaffe836f256e92e18f2082c66bb72793f4e8fdc7ca5e9f1eeff7cdb7b7", func := "anamorph/anamorphlaw10.PermTurns", spec := "permTurns", unfollowed := true, recurses := true, apart := false, narrowed := true }
def PermTurnsUptoSaid : Prop := permTurnsUptoRow.holds Try.pinned (OpenSpec.upto permTurnsSpec)

/-- 'anamorphlaw11.TintTells', WHERE WHAT IT READS IS OF BULK AT MOST 1048576: true; the input reads as it did. -/
def tintTellsUptoRow : OpenClaim := { program := "ytnpjnegelhaaaaa", sum := "1c99bdaffe836f256e92e18f2082c66bb72793f4e8fdc7ca5e9f1eeff7cdb7b7", func := "anamorph/anamorphlaw11.TintTells", spec := "tintTells", unfollowed := true, recurses := true, apart := false, narrowed := true }
def TintTellsUptoSaid : Prop := tintTellsUptoRow.holds Try.pinned (OpenSpec.upto tintTellsSpec)

/-- 'anamorphlaw11.TintJoins', WHERE WHAT IT READS IS OF BULK AT MOST 1048576: true; the input reads as it did. -/
def tintJoinsUptoRow : OpenClaim := { program := "ytnpjnegelhaaaaa", sum := "1c99bdaffe836f256e92e18f2082c66bb72793f4e8fdc7ca5e9f1eeff7cdb7b7", func := "anamorph/anamorphlaw11.TintJoins", spec := "tintJoins", unfollowed := true, recurses := true, apart := false, narrowed := true }
def TintJoinsUptoSaid : Prop := tintJoinsUptoRow.holds Try.pinned (OpenSpec.upto tintJoinsSpec)

/-- 'anamorphlaw11.TintBack', WHERE WHAT IT READS IS OF BULK AT MOST 1048576: true; the input reads as it did. -/
def tintBackUptoRow : OpenClaim := { program := "ytnpjnegelhaaaaa", sum := "1c99bdaffe836f256e92e18f2082c66bb72793f4e8fdc7ca5e9f1eeff7cdb7b7", func := "anamorph/anamorphlaw11.TintBack", spec := "tintBack", unfollowed := true, recurses := true, apart := false, narrowed := true }
def TintBackUptoSaid : Prop := tintBackUptoRow.holds Try.pinned (OpenSpec.upto tintBackSpec)

/-- 'anamorphlaw12.HashTells', WHERE WHAT IT READS IS OF BULK AT MOST 1048576: true; the input reads as it did. -/
def hashTellsUptoRow : OpenClaim := { program := "ytnpjnegelhaaaaa", sum := "1c99bdaffe836f256e92e18f2082c66bb72793f4e8fdc7ca5e9f1eeff7cdb7b7", func := "anamorph/anamorphlaw12.HashTells", spec := "hashTells", apart := false, narrowed := true }
def HashTellsUptoSaid : Prop := hashTellsUptoRow.holds Try.pinned (OpenSpec.upto hashTellsSpec)

/-- 'anamorphlaw12.HashPieces', WHERE WHAT IT READS IS OF BULK AT MOST 1048576: true; the input reads as it did. -/
def hashPiecesUptoRow : OpenClaim := { program := "ytnpjnegelhaaaaa", sum := "1c99bdaffe836f256e92e18f2082c66bb72793f4e8fdc7ca5e9f1eeff7cdb7b7", func := "anamorph/anamorphlaw12.HashPieces", spec := "hashPieces", apart := false, narrowed := true }
def HashPiecesUptoSaid : Prop := hashPiecesUptoRow.holds Try.pinned (OpenSpec.upto hashPiecesSpec)

/-- 'anamorphlaw12.HashApart', WHERE WHAT IT READS IS OF BULK AT MOST 1048576: true; the input reads as it did. -/
def hashApartUptoRow : OpenClaim := { program := "ytnpjnegelhaaaaa", sum := "1c99bdaffe836f256e92e18f2082c66bb72793f4e8fdc7ca5e9f1eeff7cdb7b7", func := "anamorph/anamorphlaw12.HashApart", spec := "hashApart", apart := false, narrowed := true }
def HashApartUptoSaid : Prop := hashApartUptoRow.holds Try.pinned (OpenSpec.upto hashApartSpec)

end Rows
end Go.Proofs.Ytnpjnegelhaaaaa
