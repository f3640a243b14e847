/-
  No cell of these rows narrows 'for every input' (looked for: loops, veiled, ifaces, maps, wideKeys, modest, calm, conditions, laid).
  DERIVED. THE GIVEN ROWS OF THIS SEAT. 3 by the template 'for every input the law returns true; each argument reads behind the call as it read before'; 0 by the template 'total and deterministic' (their statements: YtbpnnjnkjbpmaaaTotals.lean).
  GIVEN WITH THE SEED: the statements are not yours to turn. If you find one false, say at which input.
  Laid BY PROGRAM, IN A SANDBOX (cutbox-rows.mjs): the forced cells as the released guide's own fill.sh prints them over the translation ff2c05e9a50905fe… (all of the seat's roots in one cut). By AI agents, Wed Nov 11 2026. No macro, syntax, notation, axiom, sorry.
-/
import Derived.Test.YtbpnnjnkjbpmaaaChecked
import GoSem.Claim
import GoSem.ClaimJoined
import GoSem.ClaimMapViews
import Derived.JoinedTies
import Derived.KernelRfl
namespace Go.Proofs.Ytbpnnjnkjbpmaaa
/- THE CELL 'sum', in the pinned program and in every row, IS THE sha256 OF THE DUMP (.gsa) THAT YtbpnnjnkjbpmaaaProg.lean LOADS. Nothing in Lean hashes anything: it is a label: what it is worth is what the hold of that sum in a sandbox is worth. -/
noncomputable def Try.pinned : Pinned := { name := "ytbpnnjnkjbpmaaa", sum := "ff2c05e9a50905fef3e3276b4eccb472c66bb740995963df3486c6e4a892b7d0", checked := Try.checked }
namespace Rows
def none {H : Type} : Left H := { results := [], args := [] }

/-- 'anamorphlaw13.DiffTells': WHATEVER THE INPUT: true; the input reads as it did. -/
def diffTellsSpec : ChangeSpec := { name := "diffTells", fn := fun _ => fun
  | [d1, d2, d3] => { results := [.lit (.bool true)], args := [d1, d2, d3] }
  | _ => none }
def diffTellsRow : OpenClaim := { program := "ytbpnnjnkjbpmaaa", sum := "ff2c05e9a50905fef3e3276b4eccb472c66bb740995963df3486c6e4a892b7d0", func := "anamorph/anamorphlaw13.DiffTells", spec := "diffTells", apart := false }
def DiffTellsSaid : Prop := diffTellsRow.holds Try.pinned (OpenSpec.ofChange diffTellsSpec)

/-- ITS FALSE NEIGHBOUR: 'it returns false'. Refute it at one input. -/
def diffTellsWrong : ChangeSpec := { name := "diffTells", fn := fun _ => fun
  | [d1, d2, d3] => { results := [.lit (.bool false)], args := [d1, d2, d3] }
  | _ => none }
def DiffTellsWrongFalsely : Prop := diffTellsRow.holds Try.pinned (OpenSpec.ofChange diffTellsWrong)

/-- 'anamorphlaw13.DiffPeak': WHATEVER THE INPUT: true; the input reads as it did. -/
def diffPeakSpec : ChangeSpec := { name := "diffPeak", fn := fun _ => fun
  | [d1, d2] => { results := [.lit (.bool true)], args := [d1, d2] }
  | _ => none }
def diffPeakRow : OpenClaim := { program := "ytbpnnjnkjbpmaaa", sum := "ff2c05e9a50905fef3e3276b4eccb472c66bb740995963df3486c6e4a892b7d0", func := "anamorph/anamorphlaw13.DiffPeak", spec := "diffPeak", apart := false }
def DiffPeakSaid : Prop := diffPeakRow.holds Try.pinned (OpenSpec.ofChange diffPeakSpec)

/-- ITS FALSE NEIGHBOUR: 'it returns false'. Refute it at one input. -/
def diffPeakWrong : ChangeSpec := { name := "diffPeak", fn := fun _ => fun
  | [d1, d2] => { results := [.lit (.bool false)], args := [d1, d2] }
  | _ => none }
def DiffPeakWrongFalsely : Prop := diffPeakRow.holds Try.pinned (OpenSpec.ofChange diffPeakWrong)

/-- 'anamorphlaw13.DiffThird': WHATEVER THE INPUT: true; the input reads as it did. -/
def diffThirdSpec : ChangeSpec := { name := "diffThird", fn := fun _ => fun
  | [d1, d2, d3] => { results := [.lit (.bool true)], args := [d1, d2, d3] }
  | _ => none }
def diffThirdRow : OpenClaim := { program := "ytbpnnjnkjbpmaaa", sum := "ff2c05e9a50905fef3e3276b4eccb472c66bb740995963df3486c6e4a892b7d0", func := "anamorph/anamorphlaw13.DiffThird", spec := "diffThird", apart := false }
def DiffThirdSaid : Prop := diffThirdRow.holds Try.pinned (OpenSpec.ofChange diffThirdSpec)

/-- ITS FALSE NEIGHBOUR: 'it returns false'. Refute it at one input. -/
def diffThirdWrong : ChangeSpec := { name := "diffThird", fn := fun _ => fun
  | [d1, d2, d3] => { results := [.lit (.bool false)], args := [d1, d2, d3] }
  | _ => none }
def DiffThirdWrongFalsely : Prop := diffThirdRow.holds Try.pinned (OpenSpec.ofChange diffThirdWrong)

/- THE SECOND FORM. 'bulk': how many values and letters a reading holds, each counted each time it is reached (what is shared counts as often as it is met; a slice's spare places count too). A statement '..UptoSaid' is the law's where the arguments, and the package variables that the reading takes, are together of bulk at most 1048576: NARROWER than '..Said'. Prove '..Said' where nothing that the law and all that it calls make is longer than what came in: it says more and counts as full. Else prove '..UptoSaid'. A law counts once. -/
mutual
def uptoBulk {H : Type} : DataW H → Nat
  | .lit (.string bytes) => bytes.length + 1
  | .lit _ => 1
  | .nil => 1
  | .ptr d => uptoBulk d + 1
  | .slice elems spare => uptoBulkAll elems + uptoBulkAll spare + 1
  | .agg parts => uptoBulkAll parts + 1
  | .iface _ d => uptoBulk d + 1
  | .map entries => uptoBulkEntries entries + 1
  | .held _ => 1
def uptoBulkAll {H : Type} : List (DataW H) → Nat
  | [] => 0
  | d :: r => uptoBulk d + uptoBulkAll r
def uptoBulkEntries {H : Type} : List (Lit × DataW H) → Nat
  | [] => 0
  | x :: r => uptoBulkEntry x + uptoBulkEntries r
def uptoBulkEntry {H : Type} : Lit × DataW H → Nat
  | (.string bytes, d) => bytes.length + uptoBulk d + 1
  | (_, d) => uptoBulk d + 1
 end
def uptoSmall : (H : Type) → List (DataW H) → Bool := fun _ ds => decide (uptoBulkAll ds ≤ 1048576)
def OpenSpec.upto (s : _root_.Go.ChangeSpec) : _root_.Go.OpenSpec := { _root_.Go.OpenSpec.ofChange s with cond := some uptoSmall }

/-- 'anamorphlaw13.DiffTells', WHERE WHAT IT READS IS OF BULK AT MOST 1048576: true; the input reads as it did. -/
def diffTellsUptoRow : OpenClaim := { program := "ytbpnnjnkjbpmaaa", sum := "ff2c05e9a50905fef3e3276b4eccb472c66bb740995963df3486c6e4a892b7d0", func := "anamorph/anamorphlaw13.DiffTells", spec := "diffTells", apart := false, narrowed := true }
def DiffTellsUptoSaid : Prop := diffTellsUptoRow.holds Try.pinned (OpenSpec.upto diffTellsSpec)

/-- 'anamorphlaw13.DiffPeak', WHERE WHAT IT READS IS OF BULK AT MOST 1048576: true; the input reads as it did. -/
def diffPeakUptoRow : OpenClaim := { program := "ytbpnnjnkjbpmaaa", sum := "ff2c05e9a50905fef3e3276b4eccb472c66bb740995963df3486c6e4a892b7d0", func := "anamorph/anamorphlaw13.DiffPeak", spec := "diffPeak", apart := false, narrowed := true }
def DiffPeakUptoSaid : Prop := diffPeakUptoRow.holds Try.pinned (OpenSpec.upto diffPeakSpec)

/-- 'anamorphlaw13.DiffThird', WHERE WHAT IT READS IS OF BULK AT MOST 1048576: true; the input reads as it did. -/
def diffThirdUptoRow : OpenClaim := { program := "ytbpnnjnkjbpmaaa", sum := "ff2c05e9a50905fef3e3276b4eccb472c66bb740995963df3486c6e4a892b7d0", func := "anamorph/anamorphlaw13.DiffThird", spec := "diffThird", apart := false, narrowed := true }
def DiffThirdUptoSaid : Prop := diffThirdUptoRow.holds Try.pinned (OpenSpec.upto diffThirdSpec)

end Rows
end Go.Proofs.Ytbpnnjnkjbpmaaa
