/-
  No cell of these rows narrows 'for every input' (looked for: loops, veiled, ifaces, maps, wideKeys, modest, calm, conditions, laid).
  DERIVED. THE GIVEN ROWS OF THIS SEAT. 5 by the template 'for every input the law returns true; each argument reads behind the call as it read before'; 0 by the template 'total and deterministic' (their statements: YtlaohlcghdbjhaaTotals.lean).
  GIVEN WITH THE SEED: the statements are not yours to turn. If you find one false, say at which input.
  Laid BY PROGRAM, IN A SANDBOX (cutbox-rows.mjs): the forced cells as the released guide's own fill.sh prints them over the translation ccdbad479b8bac47… (all of the seat's roots in one cut). By AI agents, Wed Nov 11 2026. No macro, syntax, notation, axiom, sorry.
-/
import Derived.Test.YtlaohlcghdbjhaaChecked
import GoSem.Claim
import GoSem.ClaimJoined
import GoSem.ClaimMapViews
import Derived.JoinedTies
import Derived.KernelRfl
namespace Go.Proofs.Ytlaohlcghdbjhaa
/- THE CELL 'sum', in the pinned program and in every row, IS THE sha256 OF THE DUMP (.gsa) THAT YtlaohlcghdbjhaaProg.lean LOADS. Nothing in Lean hashes anything: it is a label: what it is worth is what the hold of that sum in a sandbox is worth. -/
noncomputable def Try.pinned : Pinned := { name := "ytlaohlcghdbjhaa", sum := "ccdbad479b8bac47879cbf74788baf10cae172d5eaa8e9eccce61e541d669456", checked := Try.checked }
namespace Rows
def none {H : Type} : Left H := { results := [], args := [] }

/-- 'laws.FnExactAllValid': WHATEVER THE INPUT: true; the input reads as it did. -/
def fnExactAllValidSpec : ChangeSpec := { name := "fnExactAllValid", fn := fun _ => fun
  | [d] => { results := [.lit (.bool true)], args := [d] }
  | _ => none }
def fnExactAllValidRow : OpenClaim := { program := "ytlaohlcghdbjhaa", sum := "ccdbad479b8bac47879cbf74788baf10cae172d5eaa8e9eccce61e541d669456", func := "loop.example/g00520/laws.FnExactAllValid", spec := "fnExactAllValid", apart := false }
def FnExactAllValidSaid : Prop := fnExactAllValidRow.holds Try.pinned (OpenSpec.ofChange fnExactAllValidSpec)

/-- ITS FALSE NEIGHBOUR: 'it returns false'. Refute it at one input. -/
def fnExactAllValidWrong : ChangeSpec := { name := "fnExactAllValid", fn := fun _ => fun
  | [d] => { results := [.lit (.bool false)], args := [d] }
  | _ => none }
def FnExactAllValidWrongFalsely : Prop := fnExactAllValidRow.holds Try.pinned (OpenSpec.ofChange fnExactAllValidWrong)

/-- 'laws.FnExactDotRat': WHATEVER THE INPUT: true; the input reads as it did. -/
def fnExactDotRatSpec : ChangeSpec := { name := "fnExactDotRat", fn := fun _ => fun
  | [d1, d2] => { results := [.lit (.bool true)], args := [d1, d2] }
  | _ => none }
def fnExactDotRatRow : OpenClaim := { program := "ytlaohlcghdbjhaa", sum := "ccdbad479b8bac47879cbf74788baf10cae172d5eaa8e9eccce61e541d669456", func := "loop.example/g00520/laws.FnExactDotRat", spec := "fnExactDotRat", unfollowed := true, recurses := true, apart := false }
def FnExactDotRatSaid : Prop := fnExactDotRatRow.holds Try.pinned (OpenSpec.ofChange fnExactDotRatSpec)

/-- ITS FALSE NEIGHBOUR: 'it returns false'. Refute it at one input. -/
def fnExactDotRatWrong : ChangeSpec := { name := "fnExactDotRat", fn := fun _ => fun
  | [d1, d2] => { results := [.lit (.bool false)], args := [d1, d2] }
  | _ => none }
def FnExactDotRatWrongFalsely : Prop := fnExactDotRatRow.holds Try.pinned (OpenSpec.ofChange fnExactDotRatWrong)

/-- 'laws.FnExactAddScaled': WHATEVER THE INPUT: true; the input reads as it did. -/
def fnExactAddScaledSpec : ChangeSpec := { name := "fnExactAddScaled", fn := fun _ => fun
  | [d1, d2, d3] => { results := [.lit (.bool true)], args := [d1, d2, d3] }
  | _ => none }
def fnExactAddScaledRow : OpenClaim := { program := "ytlaohlcghdbjhaa", sum := "ccdbad479b8bac47879cbf74788baf10cae172d5eaa8e9eccce61e541d669456", func := "loop.example/g00520/laws.FnExactAddScaled", spec := "fnExactAddScaled", unfollowed := true, recurses := true, apart := false }
def FnExactAddScaledSaid : Prop := fnExactAddScaledRow.holds Try.pinned (OpenSpec.ofChange fnExactAddScaledSpec)

/-- ITS FALSE NEIGHBOUR: 'it returns false'. Refute it at one input. -/
def fnExactAddScaledWrong : ChangeSpec := { name := "fnExactAddScaled", fn := fun _ => fun
  | [d1, d2, d3] => { results := [.lit (.bool false)], args := [d1, d2, d3] }
  | _ => none }
def FnExactAddScaledWrongFalsely : Prop := fnExactAddScaledRow.holds Try.pinned (OpenSpec.ofChange fnExactAddScaledWrong)

/-- 'laws.FnExactIntsToRats': WHATEVER THE INPUT: true; the input reads as it did. -/
def fnExactIntsToRatsSpec : ChangeSpec := { name := "fnExactIntsToRats", fn := fun _ => fun
  | [d] => { results := [.lit (.bool true)], args := [d] }
  | _ => none }
def fnExactIntsToRatsRow : OpenClaim := { program := "ytlaohlcghdbjhaa", sum := "ccdbad479b8bac47879cbf74788baf10cae172d5eaa8e9eccce61e541d669456", func := "loop.example/g00520/laws.FnExactIntsToRats", spec := "fnExactIntsToRats", unfollowed := true, recurses := true, apart := false }
def FnExactIntsToRatsSaid : Prop := fnExactIntsToRatsRow.holds Try.pinned (OpenSpec.ofChange fnExactIntsToRatsSpec)

/-- ITS FALSE NEIGHBOUR: 'it returns false'. Refute it at one input. -/
def fnExactIntsToRatsWrong : ChangeSpec := { name := "fnExactIntsToRats", fn := fun _ => fun
  | [d] => { results := [.lit (.bool false)], args := [d] }
  | _ => none }
def FnExactIntsToRatsWrongFalsely : Prop := fnExactIntsToRatsRow.holds Try.pinned (OpenSpec.ofChange fnExactIntsToRatsWrong)

/-- 'laws.FnExactEqualVector': WHATEVER THE INPUT: true; the input reads as it did. -/
def fnExactEqualVectorSpec : ChangeSpec := { name := "fnExactEqualVector", fn := fun _ => fun
  | [d1, d2] => { results := [.lit (.bool true)], args := [d1, d2] }
  | _ => none }
def fnExactEqualVectorRow : OpenClaim := { program := "ytlaohlcghdbjhaa", sum := "ccdbad479b8bac47879cbf74788baf10cae172d5eaa8e9eccce61e541d669456", func := "loop.example/g00520/laws.FnExactEqualVector", spec := "fnExactEqualVector", apart := false }
def FnExactEqualVectorSaid : Prop := fnExactEqualVectorRow.holds Try.pinned (OpenSpec.ofChange fnExactEqualVectorSpec)

/-- ITS FALSE NEIGHBOUR: 'it returns false'. Refute it at one input. -/
def fnExactEqualVectorWrong : ChangeSpec := { name := "fnExactEqualVector", fn := fun _ => fun
  | [d1, d2] => { results := [.lit (.bool false)], args := [d1, d2] }
  | _ => none }
def FnExactEqualVectorWrongFalsely : Prop := fnExactEqualVectorRow.holds Try.pinned (OpenSpec.ofChange fnExactEqualVectorWrong)

/- THE SECOND FORM. 'bulk': how many values and letters a reading holds, each counted each time it is reached (what is shared counts as often as it is met; a slice's spare places count too). A statement '..UptoSaid' is the law's where the arguments, and the package variables that the reading takes, are together of bulk at most 1048576: NARROWER than '..Said'. Prove '..Said' where nothing that the law and all that it calls make is longer than what came in: it says more and counts as full. Else prove '..UptoSaid'. A law counts once. -/
mutual
def uptoBulk {H : Type} : DataW H → Nat
  | .lit (.string bytes) => bytes.length + 1
  | .lit _ => 1
  | .nil => 1
  | .ptr d => uptoBulk d + 1
  | .slice elems spare => uptoBulkAll elems + uptoBulkAll spare + 1
  | .agg parts => uptoBulkAll parts + 1
  | .iface _ d => uptoBulk d + 1
  | .map entries => uptoBulkEntries entries + 1
  | .held _ => 1
def uptoBulkAll {H : Type} : List (DataW H) → Nat
  | [] => 0
  | d :: r => uptoBulk d + uptoBulkAll r
def uptoBulkEntries {H : Type} : List (Lit × DataW H) → Nat
  | [] => 0
  | x :: r => uptoBulkEntry x + uptoBulkEntries r
def uptoBulkEntry {H : Type} : Lit × DataW H → Nat
  | (.string bytes, d) => bytes.length + uptoBulk d + 1
  | (_, d) => uptoBulk d + 1
 end
def uptoSmall : (H : Type) → List (DataW H) → Bool := fun _ ds => decide (uptoBulkAll ds ≤ 1048576)
def OpenSpec.upto (s : _root_.Go.ChangeSpec) : _root_.Go.OpenSpec := { _root_.Go.OpenSpec.ofChange s with cond := some uptoSmall }

/-- 'laws.FnExactAllValid', WHERE WHAT IT READS IS OF BULK AT MOST 1048576: true; the input reads as it did. -/
def fnExactAllValidUptoRow : OpenClaim := { program := "ytlaohlcghdbjhaa", sum := "ccdbad479b8bac47879cbf74788baf10cae172d5eaa8e9eccce61e541d669456", func := "loop.example/g00520/laws.FnExactAllValid", spec := "fnExactAllValid", apart := false, narrowed := true }
def FnExactAllValidUptoSaid : Prop := fnExactAllValidUptoRow.holds Try.pinned (OpenSpec.upto fnExactAllValidSpec)

/-- 'laws.FnExactDotRat', WHERE WHAT IT READS IS OF BULK AT MOST 1048576: true; the input reads as it did. -/
def fnExactDotRatUptoRow : OpenClaim := { program := "ytlaohlcghdbjhaa", sum := "ccdbad479b8bac47879cbf74788baf10cae172d5eaa8e9eccce61e541d669456", func := "loop.example/g00520/laws.FnExactDotRat", spec := "fnExactDotRat", unfollowed := true, recurses := true, apart := false, narrowed := true }
def FnExactDotRatUptoSaid : Prop := fnExactDotRatUptoRow.holds Try.pinned (OpenSpec.upto fnExactDotRatSpec)

/-- 'laws.FnExactAddScaled', WHERE WHAT IT READS IS OF BULK AT MOST 1048576: true; the input reads as it did. -/
def fnExactAddScaledUptoRow : OpenClaim := { program := "ytlaohlcghdbjhaa", sum := "ccdbad479b8bac47879cbf74788baf10cae172d5eaa8e9eccce61e541d669456", func := "loop.example/g00520/laws.FnExactAddScaled", spec := "fnExactAddScaled", unfollowed := true, recurses := true, apart := false, narrowed := true }
def FnExactAddScaledUptoSaid : Prop := fnExactAddScaledUptoRow.holds Try.pinned (OpenSpec.upto fnExactAddScaledSpec)

/-- 'laws.FnExactIntsToRats', WHERE WHAT IT READS IS OF BULK AT MOST 1048576: true; the input reads as it did. -/
def fnExactIntsToRatsUptoRow : OpenClaim := { program := "ytlaohlcghdbjhaa", sum := "ccdbad479b8bac47879cbf74788baf10cae172d5eaa8e9eccce61e541d669456", func := "loop.example/g00520/laws.FnExactIntsToRats", spec := "fnExactIntsToRats", unfollowed := true, recurses := true, apart := false, narrowed := true }
def FnExactIntsToRatsUptoSaid : Prop := fnExactIntsToRatsUptoRow.holds Try.pinned (OpenSpec.upto fnExactIntsToRatsSpec)

/-- 'laws.FnExactEqualVector', WHERE WHAT IT READS IS OF BULK AT MOST 1048576: true; the input reads as it did. -/
def fnExactEqualVectorUptoRow : OpenClaim := { program := "ytlaohlcghdbjhaa", sum := "ccdbad479b8bac47879cbf74788baf10cae172d5eaa8e9eccce61e541d669456", func := "loop.example/g00520/laws.FnExactEqualVector", spec := "fnExactEqualVector", apart := false, narrowed := true }
def FnExactEqualVectorUptoSaid : Prop := fnExactEqualVectorUptoRow.holds Try.pinned (OpenSpec.upto fnExactEqualVectorSpec)

end Rows
end Go.Proofs.Ytlaohlcghdbjhaa
