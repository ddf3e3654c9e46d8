/-
  No cell of these rows narrows 'for every input' (looked for: loops, veiled, ifaces, maps, wideKeys, modest, calm, conditions, laid).
  DERIVED. THE GIVEN ROWS OF THIS SEAT. 3 by the template 'for every input the law returns true; each argument reads behind the call as it read before'; 0 by the template 'total and deterministic' (their statements: YtbnaiojbkecofaaTotals.lean).
  GIVEN WITH THE SEED: the statements are not yours to turn. If you find one false, say at which input.
  Laid BY PROGRAM, IN A SANDBOX (cutbox-rows.mjs): the forced cells as the released guide's own fill.sh prints them over the translation dc10e2c02f2be5d1… (all of the seat's roots in one cut). By AI agents, Wed Nov 11 2026. No macro, syntax, notation, axiom, sorry.
-/
import Derived.Test.YtbnaiojbkecofaaChecked
import GoSem.Claim
import GoSem.ClaimJoined
import GoSem.ClaimMapViews
import Derived.JoinedTies
import Derived.KernelRfl
namespace Go.Proofs.Ytbnaiojbkecofaa
/- THE CELL 'sum', in the pinned program and in every row, IS THE sha256 OF THE DUMP (.gsa) THAT YtbnaiojbkecofaaProg.lean LOADS. Nothing in Lean hashes anything: it is a label: what it is worth is what the hold of that sum in a sandbox is worth. -/
noncomputable def Try.pinned : Pinned := { name := "ytbnaiojbkecofaa", sum := "dc10e2c02f2be5d165d3f038ed6cd86c8ff1d5c087b666fc9707b5e4b41f1b0d", checked := Try.checked }
namespace Rows
def none {H : Type} : Left H := { results := [], args := [] }

/-- 'milepostlaw08.CurSteps': WHATEVER THE INPUT: true; the input reads as it did. -/
def curStepsSpec : ChangeSpec := { name := "curSteps", fn := fun _ => fun
  | [d1, d2] => { results := [.lit (.bool true)], args := [d1, d2] }
  | _ => none }
def curStepsRow : OpenClaim := { program := "ytbnaiojbkecofaa", sum := "dc10e2c02f2be5d165d3f038ed6cd86c8ff1d5c087b666fc9707b5e4b41f1b0d", func := "milepost/milepostlaw08.CurSteps", spec := "curSteps", apart := false }
def CurStepsSaid : Prop := curStepsRow.holds Try.pinned (OpenSpec.ofChange curStepsSpec)

/-- ITS FALSE NEIGHBOUR: 'it returns false'. Refute it at one input. -/
def curStepsWrong : ChangeSpec := { name := "curSteps", fn := fun _ => fun
  | [d1, d2] => { results := [.lit (.bool false)], args := [d1, d2] }
  | _ => none }
def CurStepsWrongFalsely : Prop := curStepsRow.holds Try.pinned (OpenSpec.ofChange curStepsWrong)

/-- 'milepostlaw08.CurStays': WHATEVER THE INPUT: true; the input reads as it did. -/
def curStaysSpec : ChangeSpec := { name := "curStays", fn := fun _ => fun
  | [d1, d2] => { results := [.lit (.bool true)], args := [d1, d2] }
  | _ => none }
def curStaysRow : OpenClaim := { program := "ytbnaiojbkecofaa", sum := "dc10e2c02f2be5d165d3f038ed6cd86c8ff1d5c087b666fc9707b5e4b41f1b0d", func := "milepost/milepostlaw08.CurStays", spec := "curStays", apart := false }
def CurStaysSaid : Prop := curStaysRow.holds Try.pinned (OpenSpec.ofChange curStaysSpec)

/-- ITS FALSE NEIGHBOUR: 'it returns false'. Refute it at one input. -/
def curStaysWrong : ChangeSpec := { name := "curStays", fn := fun _ => fun
  | [d1, d2] => { results := [.lit (.bool false)], args := [d1, d2] }
  | _ => none }
def CurStaysWrongFalsely : Prop := curStaysRow.holds Try.pinned (OpenSpec.ofChange curStaysWrong)

/-- 'milepostlaw08.CurNone': WHATEVER THE INPUT: true; the input reads as it did. -/
def curNoneSpec : ChangeSpec := { name := "curNone", fn := fun _ => fun
  | [d] => { results := [.lit (.bool true)], args := [d] }
  | _ => none }
def curNoneRow : OpenClaim := { program := "ytbnaiojbkecofaa", sum := "dc10e2c02f2be5d165d3f038ed6cd86c8ff1d5c087b666fc9707b5e4b41f1b0d", func := "milepost/milepostlaw08.CurNone", spec := "curNone", apart := false }
def CurNoneSaid : Prop := curNoneRow.holds Try.pinned (OpenSpec.ofChange curNoneSpec)

/-- ITS FALSE NEIGHBOUR: 'it returns false'. Refute it at one input. -/
def curNoneWrong : ChangeSpec := { name := "curNone", fn := fun _ => fun
  | [d] => { results := [.lit (.bool false)], args := [d] }
  | _ => none }
def CurNoneWrongFalsely : Prop := curNoneRow.holds Try.pinned (OpenSpec.ofChange curNoneWrong)

/- THE SECOND FORM. 'bulk': how many values and letters a reading holds, each counted each time it is reached (what is shared counts as often as it is met; a slice's spare places count too). A statement '..UptoSaid' is the law's where the arguments, and the package variables that the reading takes, are together of bulk at most 1048576: NARROWER than '..Said'. Prove '..Said' where nothing that the law and all that it calls make is longer than what came in: it says more and counts as full. Else prove '..UptoSaid'. A law counts once. -/
mutual
def uptoBulk {H : Type} : DataW H → Nat
  | .lit (.string bytes) => bytes.length + 1
  | .lit _ => 1
  | .nil => 1
  | .ptr d => uptoBulk d + 1
  | .slice elems spare => uptoBulkAll elems + uptoBulkAll spare + 1
  | .agg parts => uptoBulkAll parts + 1
  | .iface _ d => uptoBulk d + 1
  | .map entries => uptoBulkEntries entries + 1
  | .held _ => 1
def uptoBulkAll {H : Type} : List (DataW H) → Nat
  | [] => 0
  | d :: r => uptoBulk d + uptoBulkAll r
def uptoBulkEntries {H : Type} : List (Lit × DataW H) → Nat
  | [] => 0
  | x :: r => uptoBulkEntry x + uptoBulkEntries r
def uptoBulkEntry {H : Type} : Lit × DataW H → Nat
  | (.string bytes, d) => bytes.length + uptoBulk d + 1
  | (_, d) => uptoBulk d + 1
 end
def uptoSmall : (H : Type) → List (DataW H) → Bool := fun _ ds => decide (uptoBulkAll ds ≤ 1048576)
def OpenSpec.upto (s : _root_.Go.ChangeSpec) : _root_.Go.OpenSpec := { _root_.Go.OpenSpec.ofChange s with cond := some uptoSmall }

/-- 'milepostlaw08.CurSteps', WHERE WHAT IT READS IS OF BULK AT MOST 1048576: true; the input reads as it did. -/
def curStepsUptoRow : OpenClaim := { program := "ytbnaiojbkecofaa", sum := "dc10e2c02f2be5d165d3f038ed6cd86c8ff1d5c087b666fc9707b5e4b41f1b0d", func := "milepost/milepostlaw08.CurSteps", spec := "curSteps", apart := false, narrowed := true }
def CurStepsUptoSaid : Prop := curStepsUptoRow.holds Try.pinned (OpenSpec.upto curStepsSpec)

/-- 'milepostlaw08.CurStays', WHERE WHAT IT READS IS OF BULK AT MOST 1048576: true; the input reads as it did. -/
def curStaysUptoRow : OpenClaim := { program := "ytbnaiojbkecofaa", sum := "dc10e2c02f2be5d165d3f038ed6cd86c8ff1d5c087b666fc9707b5e4b41f1b0d", func := "milepost/milepostlaw08.CurStays", spec := "curStays", apart := false, narrowed := true }
def CurStaysUptoSaid : Prop := curStaysUptoRow.holds Try.pinned (OpenSpec.upto curStaysSpec)

/-- 'milepostlaw08.CurNone', WHERE WHAT IT READS IS OF BULK AT MOST 1048576: true; the input reads as it did. -/
def curNoneUptoRow : OpenClaim := { program := "ytbnaiojbkecofaa", sum := "dc10e2c02f2be5d165d3f038ed6cd86c8ff1d5c087b666fc9707b5e4b41f1b0d", func := "milepost/milepostlaw08.CurNone", spec := "curNone", apart := false, narrowed := true }
def CurNoneUptoSaid : Prop := curNoneUptoRow.holds Try.pinned (OpenSpec.upto curNoneSpec)

end Rows
end Go.Proofs.Ytbnaiojbkecofaa
