/-
  NARROWER THAN 'FOR EVERY INPUT', by the rows' own cells (each row's printed sentence says how): ShearAsks: laid · ShearOnce: laid · ShearNear: laid · ShearQuarters: laid.
  DERIVED. THE GIVEN ROWS OF THIS SEAT. 4 by the template 'for every input the law returns true; each argument reads behind the call as it read before'; 0 by the template 'total and deterministic' (their statements: YtgcnmffbhjlolabDoorTotals.lean).
  GIVEN WITH THE SEED: the statements are not yours to turn. If you find one false, say at which input.
  Laid BY PROGRAM, IN A SANDBOX (cutbox-rows.mjs): the forced cells as the released guide's own fill.sh prints them over the translation 2ff4cb015647b400… (all of the seat's roots in one cut). By AI agents, Wed Nov 11 2026. No macro, syntax, notation, axiom, sorry.
-/
import Derived.Test.YtgcnmffbhjlolabDoorChecked
import GoSem.Claim
import GoSem.ClaimJoined
import GoSem.ClaimMapViews
import Derived.JoinedTies
import Derived.KernelRfl
namespace Go.Proofs.YtgcnmffbhjlolabDoor
/- THE CELL 'sum', in the pinned program and in every row, IS THE sha256 OF THE DUMP (.gsa) THAT YtgcnmffbhjlolabDoorProg.lean LOADS. Nothing in Lean hashes anything: it is a label: what it is worth is what the hold of that sum in a sandbox is worth. -/
noncomputable def Tryd.pinned : Pinned := { name := "ytgcnmffbhjlolabdoor", sum := "2ff4cb015647b400d434e249bdebcc01d09b11000907a27506d6f9624638ab83", checked := Tryd.checked }
namespace Rows
def none {H : Type} : Left H := { results := [], args := [] }

/- WHAT THE LISTED PACKAGE-LEVEL VARIABLES READ AS WHEN THE CALL BEGINS. Each datum BY PROGRAM (the guide's laid-datum.mjs) off the statement by which the dump's own 'gosem.cut.vars' lays the variable. In a bare row this is a premise. The card (YtgcnmffbhjlolabDoorCards.lean) ties it to the program's text. -/
def laid_anamorph_shear_most {H : Type} : DataW H := .agg [.lit (.int .i64 262144), .lit (.int .i64 262144), .lit (.int .i64 32768), .lit (.int .i64 32768)]

/-- 'anamorphlaw22.ShearAsks': WHATEVER THE INPUT: true; the input reads as it did. -/
def shearAsksSpec : ChangeSpec := { name := "shearAsks", fn := fun _ => fun
  | [d1, d2] => { results := [.lit (.bool true)], args := [d1, d2] }
  | _ => none }
def shearAsksRow : OpenClaim := { program := "ytgcnmffbhjlolabdoor", sum := "2ff4cb015647b400d434e249bdebcc01d09b11000907a27506d6f9624638ab83", func := "anamorph/anamorphlaw22.ShearAsks", spec := "shearAsks", unfollowed := true, recurses := true, named := ["anamorph/shear.most"], apart := false, laid := [("anamorph/shear.most", laid_anamorph_shear_most)] }
def ShearAsksSaid : Prop := shearAsksRow.holds Tryd.pinned (OpenSpec.ofChange shearAsksSpec)

/-- ITS FALSE NEIGHBOUR: 'it returns false'. Refute it at one input. -/
def shearAsksWrong : ChangeSpec := { name := "shearAsks", fn := fun _ => fun
  | [d1, d2] => { results := [.lit (.bool false)], args := [d1, d2] }
  | _ => none }
def ShearAsksWrongFalsely : Prop := shearAsksRow.holds Tryd.pinned (OpenSpec.ofChange shearAsksWrong)

/-- 'anamorphlaw22.ShearOnce': WHATEVER THE INPUT: true; the input reads as it did. -/
def shearOnceSpec : ChangeSpec := { name := "shearOnce", fn := fun _ => fun
  | [d1, d2, d3] => { results := [.lit (.bool true)], args := [d1, d2, d3] }
  | _ => none }
def shearOnceRow : OpenClaim := { program := "ytgcnmffbhjlolabdoor", sum := "2ff4cb015647b400d434e249bdebcc01d09b11000907a27506d6f9624638ab83", func := "anamorph/anamorphlaw22.ShearOnce", spec := "shearOnce", unfollowed := true, recurses := true, named := ["anamorph/shear.most"], apart := false, laid := [("anamorph/shear.most", laid_anamorph_shear_most)] }
def ShearOnceSaid : Prop := shearOnceRow.holds Tryd.pinned (OpenSpec.ofChange shearOnceSpec)

/-- ITS FALSE NEIGHBOUR: 'it returns false'. Refute it at one input. -/
def shearOnceWrong : ChangeSpec := { name := "shearOnce", fn := fun _ => fun
  | [d1, d2, d3] => { results := [.lit (.bool false)], args := [d1, d2, d3] }
  | _ => none }
def ShearOnceWrongFalsely : Prop := shearOnceRow.holds Tryd.pinned (OpenSpec.ofChange shearOnceWrong)

/-- 'anamorphlaw22.ShearNear': WHATEVER THE INPUT: true; the input reads as it did. -/
def shearNearSpec : ChangeSpec := { name := "shearNear", fn := fun _ => fun
  | [d1, d2, d3] => { results := [.lit (.bool true)], args := [d1, d2, d3] }
  | _ => none }
def shearNearRow : OpenClaim := { program := "ytgcnmffbhjlolabdoor", sum := "2ff4cb015647b400d434e249bdebcc01d09b11000907a27506d6f9624638ab83", func := "anamorph/anamorphlaw22.ShearNear", spec := "shearNear", unfollowed := true, recurses := true, named := ["anamorph/shear.most"], apart := false, laid := [("anamorph/shear.most", laid_anamorph_shear_most)] }
def ShearNearSaid : Prop := shearNearRow.holds Tryd.pinned (OpenSpec.ofChange shearNearSpec)

/-- ITS FALSE NEIGHBOUR: 'it returns false'. Refute it at one input. -/
def shearNearWrong : ChangeSpec := { name := "shearNear", fn := fun _ => fun
  | [d1, d2, d3] => { results := [.lit (.bool false)], args := [d1, d2, d3] }
  | _ => none }
def ShearNearWrongFalsely : Prop := shearNearRow.holds Tryd.pinned (OpenSpec.ofChange shearNearWrong)

/-- 'anamorphlaw22.ShearQuarters': WHATEVER THE INPUT: true; the input reads as it did. -/
def shearQuartersSpec : ChangeSpec := { name := "shearQuarters", fn := fun _ => fun
  | [d1, d2, d3] => { results := [.lit (.bool true)], args := [d1, d2, d3] }
  | _ => none }
def shearQuartersRow : OpenClaim := { program := "ytgcnmffbhjlolabdoor", sum := "2ff4cb015647b400d434e249bdebcc01d09b11000907a27506d6f9624638ab83", func := "anamorph/anamorphlaw22.ShearQuarters", spec := "shearQuarters", unfollowed := true, recurses := true, named := ["anamorph/shear.most"], apart := false, laid := [("anamorph/shear.most", laid_anamorph_shear_most)] }
def ShearQuartersSaid : Prop := shearQuartersRow.holds Tryd.pinned (OpenSpec.ofChange shearQuartersSpec)

/-- ITS FALSE NEIGHBOUR: 'it returns false'. Refute it at one input. -/
def shearQuartersWrong : ChangeSpec := { name := "shearQuarters", fn := fun _ => fun
  | [d1, d2, d3] => { results := [.lit (.bool false)], args := [d1, d2, d3] }
  | _ => none }
def ShearQuartersWrongFalsely : Prop := shearQuartersRow.holds Tryd.pinned (OpenSpec.ofChange shearQuartersWrong)

/- THE SECOND FORM. 'bulk': how many values and letters a reading holds, each counted each time it is reached (what is shared counts as often as it is met; a slice's spare places count too). A statement '..UptoSaid' is the law's where the arguments, and the package variables that the reading takes, are together of bulk at most 1048576: NARROWER than '..Said'. Prove '..Said' where nothing that the law and all that it calls make is longer than what came in: it says more and counts as full. Else prove '..UptoSaid'. A law counts once. -/
mutual
def uptoBulk {H : Type} : DataW H → Nat
  | .lit (.string bytes) => bytes.length + 1
  | .lit _ => 1
  | .nil => 1
  | .ptr d => uptoBulk d + 1
  | .slice elems spare => uptoBulkAll elems + uptoBulkAll spare + 1
  | .agg parts => uptoBulkAll parts + 1
  | .iface _ d => uptoBulk d + 1
  | .map entries => uptoBulkEntries entries + 1
  | .held _ => 1
def uptoBulkAll {H : Type} : List (DataW H) → Nat
  | [] => 0
  | d :: r => uptoBulk d + uptoBulkAll r
def uptoBulkEntries {H : Type} : List (Lit × DataW H) → Nat
  | [] => 0
  | x :: r => uptoBulkEntry x + uptoBulkEntries r
def uptoBulkEntry {H : Type} : Lit × DataW H → Nat
  | (.string bytes, d) => bytes.length + uptoBulk d + 1
  | (_, d) => uptoBulk d + 1
 end
def uptoSmall : (H : Type) → List (DataW H) → Bool := fun _ ds => decide (uptoBulkAll ds ≤ 1048576)
def OpenSpec.upto (s : _root_.Go.ChangeSpec) : _root_.Go.OpenSpec := { _root_.Go.OpenSpec.ofChange s with cond := some uptoSmall }

/-- 'anamorphlaw22.ShearAsks', WHERE WHAT IT READS IS OF BULK AT MOST 1048576: true; the input reads as it did. -/
def shearAsksUptoRow : OpenClaim := { program := "ytgcnmffbhjlolabdoor", sum := "2ff4cb015647b400d434e249bdebcc01d09b11000907a27506d6f9624638ab83", func := "anamorph/anamorphlaw22.ShearAsks", spec := "shearAsks", unfollowed := true, recurses := true, named := ["anamorph/shear.most"], apart := false, laid := [("anamorph/shear.most", laid_anamorph_shear_most)], narrowed := true }
def ShearAsksUptoSaid : Prop := shearAsksUptoRow.holds Tryd.pinned (OpenSpec.upto shearAsksSpec)

/-- 'anamorphlaw22.ShearOnce', WHERE WHAT IT READS IS OF BULK AT MOST 1048576: true; the input reads as it did. -/
def shearOnceUptoRow : OpenClaim := { program := "ytgcnmffbhjlolabdoor", sum := "2ff4cb015647b400d434e249bdebcc01d09b11000907a27506d6f9624638ab83", func := "anamorph/anamorphlaw22.ShearOnce", spec := "shearOnce", unfollowed := true, recurses := true, named := ["anamorph/shear.most"], apart := false, laid := [("anamorph/shear.most", laid_anamorph_shear_most)], narrowed := true }
def ShearOnceUptoSaid : Prop := shearOnceUptoRow.holds Tryd.pinned (OpenSpec.upto shearOnceSpec)

/-- 'anamorphlaw22.ShearNear', WHERE WHAT IT READS IS OF BULK AT MOST 1048576: true; the input reads as it did. -/
def shearNearUptoRow : OpenClaim := { program := "ytgcnmffbhjlolabdoor", sum := "2ff4cb015647b400d434e249bdebcc01d09b11000907a27506d6f9624638ab83", func := "anamorph/anamorphlaw22.ShearNear", spec := "shearNear", unfollowed := true, recurses := true, named := ["anamorph/shear.most"], apart := false, laid := [("anamorph/shear.most", laid_anamorph_shear_most)], narrowed := true }
def ShearNearUptoSaid : Prop := shearNearUptoRow.holds Tryd.pinned (OpenSpec.upto shearNearSpec)

/-- 'anamorphlaw22.ShearQuarters', WHERE WHAT IT READS IS OF BULK AT MOST 1048576: true; the input reads as it did. -/
def shearQuartersUptoRow : OpenClaim := { program := "ytgcnmffbhjlolabdoor", sum := "2ff4cb015647b400d434e249bdebcc01d09b11000907a27506d6f9624638ab83", func := "anamorph/anamorphlaw22.ShearQuarters", spec := "shearQuarters", unfollowed := true, recurses := true, named := ["anamorph/shear.most"], apart := false, laid := [("anamorph/shear.most", laid_anamorph_shear_most)], narrowed := true }
def ShearQuartersUptoSaid : Prop := shearQuartersUptoRow.holds Tryd.pinned (OpenSpec.upto shearQuartersSpec)

end Rows
end Go.Proofs.YtgcnmffbhjlolabDoor
