/-
  No cell of these rows narrows 'for every input' (looked for: loops, veiled, ifaces, maps, wideKeys, modest, calm, conditions, laid).
  DERIVED. THE GIVEN ROWS OF THIS SEAT. 7 by the template 'for every input the law returns true; each argument reads behind the call as it read before'; 0 by the template 'total and deterministic' (their statements: YtcjieaijcjinnaaTotals.lean).
  GIVEN WITH THE SEED: the statements are not yours to turn. If you find one false, say at which input.
  Laid BY PROGRAM, IN A SANDBOX (cutbox-rows.mjs): the forced cells as the released guide's own fill.sh prints them over the translation 6d7f68c8e1b9ba5d… (all of the seat's roots in one cut). By AI agents, Wed Nov 11 2026. No macro, syntax, notation, axiom, sorry.
-/
import Derived.Test.YtcjieaijcjinnaaChecked
import GoSem.Claim
import GoSem.ClaimJoined
import GoSem.ClaimMapViews
import Derived.JoinedTies
import Derived.KernelRfl
namespace Go.Proofs.Ytcjieaijcjinnaa
/- THE CELL 'sum', in the pinned program and in every row, IS THE sha256 OF THE DUMP (.gsa) THAT YtcjieaijcjinnaaProg.lean LOADS. Nothing in Lean hashes anything: it is a label: what it is worth is what the hold of that sum in a sandbox is worth. -/
noncomputable def Try.pinned : Pinned := { name := "ytcjieaijcjinnaa", sum := "6d7f68c8e1b9ba5da76d0ac0d5602c8085c77197e0be82e34b650dd224cb4c0a", checked := Try.checked }
namespace Rows
def none {H : Type} : Left H := { results := [], args := [] }

/-- 'milepostlaw05.LargeAdds': WHATEVER THE INPUT: true; the input reads as it did. -/
def largeAddsSpec : ChangeSpec := { name := "largeAdds", fn := fun _ => fun
  | [d1, d2] => { results := [.lit (.bool true)], args := [d1, d2] }
  | _ => none }
def largeAddsRow : OpenClaim := { program := "ytcjieaijcjinnaa", sum := "6d7f68c8e1b9ba5da76d0ac0d5602c8085c77197e0be82e34b650dd224cb4c0a", func := "milepost/milepostlaw05.LargeAdds", spec := "largeAdds", inPlace := ["math/bits.Add64"], named := ["math/bits.divideError", "math/bits.overflowError"], apart := false }
def LargeAddsSaid : Prop := largeAddsRow.holds Try.pinned (OpenSpec.ofChange largeAddsSpec)

/-- ITS FALSE NEIGHBOUR: 'it returns false'. Refute it at one input. -/
def largeAddsWrong : ChangeSpec := { name := "largeAdds", fn := fun _ => fun
  | [d1, d2] => { results := [.lit (.bool false)], args := [d1, d2] }
  | _ => none }
def LargeAddsWrongFalsely : Prop := largeAddsRow.holds Try.pinned (OpenSpec.ofChange largeAddsWrong)

/-- 'milepostlaw05.LargeMuls': WHATEVER THE INPUT: true; the input reads as it did. -/
def largeMulsSpec : ChangeSpec := { name := "largeMuls", fn := fun _ => fun
  | [d1, d2, d3] => { results := [.lit (.bool true)], args := [d1, d2, d3] }
  | _ => none }
def largeMulsRow : OpenClaim := { program := "ytcjieaijcjinnaa", sum := "6d7f68c8e1b9ba5da76d0ac0d5602c8085c77197e0be82e34b650dd224cb4c0a", func := "milepost/milepostlaw05.LargeMuls", spec := "largeMuls", inPlace := ["math/bits.Add64"], named := ["math/bits.divideError", "math/bits.overflowError"], apart := false }
def LargeMulsSaid : Prop := largeMulsRow.holds Try.pinned (OpenSpec.ofChange largeMulsSpec)

/-- ITS FALSE NEIGHBOUR: 'it returns false'. Refute it at one input. -/
def largeMulsWrong : ChangeSpec := { name := "largeMuls", fn := fun _ => fun
  | [d1, d2, d3] => { results := [.lit (.bool false)], args := [d1, d2, d3] }
  | _ => none }
def LargeMulsWrongFalsely : Prop := largeMulsRow.holds Try.pinned (OpenSpec.ofChange largeMulsWrong)

/-- 'milepostlaw05.LargeOf': WHATEVER THE INPUT: true; the input reads as it did. -/
def largeOfSpec : ChangeSpec := { name := "largeOf", fn := fun _ => fun
  | [d1, d2] => { results := [.lit (.bool true)], args := [d1, d2] }
  | _ => none }
def largeOfRow : OpenClaim := { program := "ytcjieaijcjinnaa", sum := "6d7f68c8e1b9ba5da76d0ac0d5602c8085c77197e0be82e34b650dd224cb4c0a", func := "milepost/milepostlaw05.LargeOf", spec := "largeOf", named := ["math/bits.divideError", "math/bits.overflowError"], apart := false }
def LargeOfSaid : Prop := largeOfRow.holds Try.pinned (OpenSpec.ofChange largeOfSpec)

/-- ITS FALSE NEIGHBOUR: 'it returns false'. Refute it at one input. -/
def largeOfWrong : ChangeSpec := { name := "largeOf", fn := fun _ => fun
  | [d1, d2] => { results := [.lit (.bool false)], args := [d1, d2] }
  | _ => none }
def LargeOfWrongFalsely : Prop := largeOfRow.holds Try.pinned (OpenSpec.ofChange largeOfWrong)

/-- 'milepostlaw05.LargeTells': WHATEVER THE INPUT: true; the input reads as it did. -/
def largeTellsSpec : ChangeSpec := { name := "largeTells", fn := fun _ => fun
  | [d] => { results := [.lit (.bool true)], args := [d] }
  | _ => none }
def largeTellsRow : OpenClaim := { program := "ytcjieaijcjinnaa", sum := "6d7f68c8e1b9ba5da76d0ac0d5602c8085c77197e0be82e34b650dd224cb4c0a", func := "milepost/milepostlaw05.LargeTells", spec := "largeTells", inPlace := ["math/bits.Add64"], named := ["math/bits.divideError", "math/bits.overflowError"], apart := false }
def LargeTellsSaid : Prop := largeTellsRow.holds Try.pinned (OpenSpec.ofChange largeTellsSpec)

/-- ITS FALSE NEIGHBOUR: 'it returns false'. Refute it at one input. -/
def largeTellsWrong : ChangeSpec := { name := "largeTells", fn := fun _ => fun
  | [d] => { results := [.lit (.bool false)], args := [d] }
  | _ => none }
def LargeTellsWrongFalsely : Prop := largeTellsRow.holds Try.pinned (OpenSpec.ofChange largeTellsWrong)

/-- 'milepostlaw06.RatioAsks': WHATEVER THE INPUT: true; the input reads as it did. -/
def ratioAsksSpec : ChangeSpec := { name := "ratioAsks", fn := fun _ => fun
  | [d1, d2, d3] => { results := [.lit (.bool true)], args := [d1, d2, d3] }
  | _ => none }
def ratioAsksRow : OpenClaim := { program := "ytcjieaijcjinnaa", sum := "6d7f68c8e1b9ba5da76d0ac0d5602c8085c77197e0be82e34b650dd224cb4c0a", func := "milepost/milepostlaw06.RatioAsks", spec := "ratioAsks", apart := false }
def RatioAsksSaid : Prop := ratioAsksRow.holds Try.pinned (OpenSpec.ofChange ratioAsksSpec)

/-- ITS FALSE NEIGHBOUR: 'it returns false'. Refute it at one input. -/
def ratioAsksWrong : ChangeSpec := { name := "ratioAsks", fn := fun _ => fun
  | [d1, d2, d3] => { results := [.lit (.bool false)], args := [d1, d2, d3] }
  | _ => none }
def RatioAsksWrongFalsely : Prop := ratioAsksRow.holds Try.pinned (OpenSpec.ofChange ratioAsksWrong)

/-- 'milepostlaw06.RatioProducts': WHATEVER THE INPUT: true; the input reads as it did. -/
def ratioProductsSpec : ChangeSpec := { name := "ratioProducts", fn := fun _ => fun
  | [d1, d2, d3] => { results := [.lit (.bool true)], args := [d1, d2, d3] }
  | _ => none }
def ratioProductsRow : OpenClaim := { program := "ytcjieaijcjinnaa", sum := "6d7f68c8e1b9ba5da76d0ac0d5602c8085c77197e0be82e34b650dd224cb4c0a", func := "milepost/milepostlaw06.RatioProducts", spec := "ratioProducts", apart := false }
def RatioProductsSaid : Prop := ratioProductsRow.holds Try.pinned (OpenSpec.ofChange ratioProductsSpec)

/-- ITS FALSE NEIGHBOUR: 'it returns false'. Refute it at one input. -/
def ratioProductsWrong : ChangeSpec := { name := "ratioProducts", fn := fun _ => fun
  | [d1, d2, d3] => { results := [.lit (.bool false)], args := [d1, d2, d3] }
  | _ => none }
def RatioProductsWrongFalsely : Prop := ratioProductsRow.holds Try.pinned (OpenSpec.ofChange ratioProductsWrong)

/-- 'milepostlaw06.RatioGrows': WHATEVER THE INPUT: true; the input reads as it did. -/
def ratioGrowsSpec : ChangeSpec := { name := "ratioGrows", fn := fun _ => fun
  | [d1, d2, d3] => { results := [.lit (.bool true)], args := [d1, d2, d3] }
  | _ => none }
def ratioGrowsRow : OpenClaim := { program := "ytcjieaijcjinnaa", sum := "6d7f68c8e1b9ba5da76d0ac0d5602c8085c77197e0be82e34b650dd224cb4c0a", func := "milepost/milepostlaw06.RatioGrows", spec := "ratioGrows", apart := false }
def RatioGrowsSaid : Prop := ratioGrowsRow.holds Try.pinned (OpenSpec.ofChange ratioGrowsSpec)

/-- ITS FALSE NEIGHBOUR: 'it returns false'. Refute it at one input. -/
def ratioGrowsWrong : ChangeSpec := { name := "ratioGrows", fn := fun _ => fun
  | [d1, d2, d3] => { results := [.lit (.bool false)], args := [d1, d2, d3] }
  | _ => none }
def RatioGrowsWrongFalsely : Prop := ratioGrowsRow.holds Try.pinned (OpenSpec.ofChange ratioGrowsWrong)

/- THE SECOND FORM. 'bulk': how many values and letters a reading holds, each counted each time it is reached (what is shared counts as often as it is met; a slice's spare places count too). A statement '..UptoSaid' is the law's where the arguments, and the package variables that the reading takes, are together of bulk at most 1048576: NARROWER than '..Said'. Prove '..Said' where nothing that the law and all that it calls make is longer than what came in: it says more and counts as full. Else prove '..UptoSaid'. A law counts once. -/
mutual
def uptoBulk {H : Type} : DataW H → Nat
  | .lit (.string bytes) => bytes.length + 1
  | .lit _ => 1
  | .nil => 1
  | .ptr d => uptoBulk d + 1
  | .slice elems spare => uptoBulkAll elems + uptoBulkAll spare + 1
  | .agg parts => uptoBulkAll parts + 1
  | .iface _ d => uptoBulk d + 1
  | .map entries => uptoBulkEntries entries + 1
  | .held _ => 1
def uptoBulkAll {H : Type} : List (DataW H) → Nat
  | [] => 0
  | d :: r => uptoBulk d + uptoBulkAll r
def uptoBulkEntries {H : Type} : List (Lit × DataW H) → Nat
  | [] => 0
  | x :: r => uptoBulkEntry x + uptoBulkEntries r
def uptoBulkEntry {H : Type} : Lit × DataW H → Nat
  | (.string bytes, d) => bytes.length + uptoBulk d + 1
  | (_, d) => uptoBulk d + 1
 end
def uptoSmall : (H : Type) → List (DataW H) → Bool := fun _ ds => decide (uptoBulkAll ds ≤ 1048576)
def OpenSpec.upto (s : _root_.Go.ChangeSpec) : _root_.Go.OpenSpec := { _root_.Go.OpenSpec.ofChange s with cond := some uptoSmall }

/-- 'milepostlaw05.LargeAdds', WHERE WHAT IT READS IS OF BULK AT MOST 1048576: true; the input reads as it did. -/
def largeAddsUptoRow : OpenClaim := { program := "ytcjieaijcjinnaa", sum := "6d7f68c8e1b9ba5da76d0ac0d5602c8085c77197e0be82e34b650dd224cb4c0a", func := "milepost/milepostlaw05.LargeAdds", spec := "largeAdds", inPlace := ["math/bits.Add64"], named := ["math/bits.divideError", "math/bits.overflowError"], apart := false, narrowed := true }
def LargeAddsUptoSaid : Prop := largeAddsUptoRow.holds Try.pinned (OpenSpec.upto largeAddsSpec)

/-- 'milepostlaw05.LargeMuls', WHERE WHAT IT READS IS OF BULK AT MOST 1048576: true; the input reads as it did. -/
def largeMulsUptoRow : OpenClaim := { program := "ytcjieaijcjinnaa", sum := "6d7f68c8e1b9ba5da76d0ac0d5602c8085c77197e0be82e34b650dd224cb4c0a", func := "milepost/milepostlaw05.LargeMuls", spec := "largeMuls", inPlace := ["math/bits.Add64"], named := ["math/bits.divideError", "math/bits.overflowError"], apart := false, narrowed := true }
def LargeMulsUptoSaid : Prop := largeMulsUptoRow.holds Try.pinned (OpenSpec.upto largeMulsSpec)

/-- 'milepostlaw05.LargeOf', WHERE WHAT IT READS IS OF BULK AT MOST 1048576: true; the input reads as it did. -/
def largeOfUptoRow : OpenClaim := { program := "ytcjieaijcjinnaa", sum := "6d7f68c8e1b9ba5da76d0ac0d5602c8085c77197e0be82e34b650dd224cb4c0a", func := "milepost/milepostlaw05.LargeOf", spec := "largeOf", named := ["math/bits.divideError", "math/bits.overflowError"], apart := false, narrowed := true }
def LargeOfUptoSaid : Prop := largeOfUptoRow.holds Try.pinned (OpenSpec.upto largeOfSpec)

/-- 'milepostlaw05.LargeTells', WHERE WHAT IT READS IS OF BULK AT MOST 1048576: true; the input reads as it did. -/
def largeTellsUptoRow : OpenClaim := { program := "ytcjieaijcjinnaa", sum := "6d7f68c8e1b9ba5da76d0ac0d5602c8085c77197e0be82e34b650dd224cb4c0a", func := "milepost/milepostlaw05.LargeTells", spec := "largeTells", inPlace := ["math/bits.Add64"], named := ["math/bits.divideError", "math/bits.overflowError"], apart := false, narrowed := true }
def LargeTellsUptoSaid : Prop := largeTellsUptoRow.holds Try.pinned (OpenSpec.upto largeTellsSpec)

/-- 'milepostlaw06.RatioAsks', WHERE WHAT IT READS IS OF BULK AT MOST 1048576: true; the input reads as it did. -/
def ratioAsksUptoRow : OpenClaim := { program := "ytcjieaijcjinnaa", sum := "6d7f68c8e1b9ba5da76d0ac0d5602c8085c77197e0be82e34b650dd224cb4c0a", func := "milepost/milepostlaw06.RatioAsks", spec := "ratioAsks", apart := false, narrowed := true }
def RatioAsksUptoSaid : Prop := ratioAsksUptoRow.holds Try.pinned (OpenSpec.upto ratioAsksSpec)

/-- 'milepostlaw06.RatioProducts', WHERE WHAT IT READS IS OF BULK AT MOST 1048576: true; the input reads as it did. -/
def ratioProductsUptoRow : OpenClaim := { program := "ytcjieaijcjinnaa", sum := "6d7f68c8e1b9ba5da76d0ac0d5602c8085c77197e0be82e34b650dd224cb4c0a", func := "milepost/milepostlaw06.RatioProducts", spec := "ratioProducts", apart := false, narrowed := true }
def RatioProductsUptoSaid : Prop := ratioProductsUptoRow.holds Try.pinned (OpenSpec.upto ratioProductsSpec)

/-- 'milepostlaw06.RatioGrows', WHERE WHAT IT READS IS OF BULK AT MOST 1048576: true; the input reads as it did. -/
def ratioGrowsUptoRow : OpenClaim := { program := "ytcjieaijcjinnaa", sum := "6d7f68c8e1b9ba5da76d0ac0d5602c8085c77197e0be82e34b650dd224cb4c0a", func := "milepost/milepostlaw06.RatioGrows", spec := "ratioGrows", apart := false, narrowed := true }
def RatioGrowsUptoSaid : Prop := ratioGrowsUptoRow.holds Try.pinned (OpenSpec.upto ratioGrowsSpec)

end Rows
end Go.Proofs.Ytcjieaijcjinnaa
