/-
  No cell of these rows narrows 'for every input' (looked for: loops, veiled, ifaces, maps, wideKeys, modest, calm, conditions, laid).
  DERIVED. THE GIVEN ROWS OF THIS SEAT. 10 by the template 'for every input the law returns true; each argument reads behind the call as it read before'; 0 by the template 'total and deterministic' (their statements: YtkaelmankhepdaaTotals.lean).
  GIVEN WITH THE SEED: the statements are not yours to turn. If you find one false, say at which input.
  Laid BY PROGRAM, IN A SANDBOX (cutbox-rows.mjs): the forced cells as the released guide's own fill.sh prints them over the translation c120e577db96f2d6… (all of the seat's roots in one cut). By AI agents, Wed Nov 11 2026. No macro, syntax, notation, axiom, sorry.
-/
import Derived.Test.YtkaelmankhepdaaChecked
import GoSem.Claim
import GoSem.ClaimJoined
import GoSem.ClaimMapViews
import Derived.JoinedTies
import Derived.KernelRfl
namespace Go.Proofs.Ytkaelmankhepdaa
/- THE CELL 'sum', in the pinned program and in every row, IS THE sha256 OF THE DUMP (.gsa) THAT YtkaelmankhepdaaProg.lean LOADS. Nothing in Lean hashes anything: it is a label: what it is worth is what the hold of that sum in a sandbox is worth. -/
noncomputable def Try.pinned : Pinned := { name := "ytkaelmankhepdaa", sum := "c120e577db96f2d69133301e45d3b2bd5a2b402e9729745fa4456e5de56fd662", checked := Try.checked }
namespace Rows
def none {H : Type} : Left H := { results := [], args := [] }

/-- 'laws.FnCoalitions': WHATEVER THE INPUT: true; the input reads as it did. -/
def fnCoalitionsSpec : ChangeSpec := { name := "fnCoalitions", fn := fun _ => fun
  | [d] => { results := [.lit (.bool true)], args := [d] }
  | _ => none }
def fnCoalitionsRow : OpenClaim := { program := "ytkaelmankhepdaa", sum := "c120e577db96f2d69133301e45d3b2bd5a2b402e9729745fa4456e5de56fd662", func := "loop.example/g00520/laws.FnCoalitions", spec := "fnCoalitions", apart := false }
def FnCoalitionsSaid : Prop := fnCoalitionsRow.holds Try.pinned (OpenSpec.ofChange fnCoalitionsSpec)

/-- ITS FALSE NEIGHBOUR: 'it returns false'. Refute it at one input. -/
def fnCoalitionsWrong : ChangeSpec := { name := "fnCoalitions", fn := fun _ => fun
  | [d] => { results := [.lit (.bool false)], args := [d] }
  | _ => none }
def FnCoalitionsWrongFalsely : Prop := fnCoalitionsRow.holds Try.pinned (OpenSpec.ofChange fnCoalitionsWrong)

/-- 'laws.FnExactCountCoalitions': WHATEVER THE INPUT: true; the input reads as it did. -/
def fnExactCountCoalitionsSpec : ChangeSpec := { name := "fnExactCountCoalitions", fn := fun _ => fun
  | [d] => { results := [.lit (.bool true)], args := [d] }
  | _ => none }
def fnExactCountCoalitionsRow : OpenClaim := { program := "ytkaelmankhepdaa", sum := "c120e577db96f2d69133301e45d3b2bd5a2b402e9729745fa4456e5de56fd662", func := "loop.example/g00520/laws.FnExactCountCoalitions", spec := "fnExactCountCoalitions", apart := false }
def FnExactCountCoalitionsSaid : Prop := fnExactCountCoalitionsRow.holds Try.pinned (OpenSpec.ofChange fnExactCountCoalitionsSpec)

/-- ITS FALSE NEIGHBOUR: 'it returns false'. Refute it at one input. -/
def fnExactCountCoalitionsWrong : ChangeSpec := { name := "fnExactCountCoalitions", fn := fun _ => fun
  | [d] => { results := [.lit (.bool false)], args := [d] }
  | _ => none }
def FnExactCountCoalitionsWrongFalsely : Prop := fnExactCountCoalitionsRow.holds Try.pinned (OpenSpec.ofChange fnExactCountCoalitionsWrong)

/-- 'laws.FnExactHasPlayer': WHATEVER THE INPUT: true; the input reads as it did. -/
def fnExactHasPlayerSpec : ChangeSpec := { name := "fnExactHasPlayer", fn := fun _ => fun
  | [d1, d2] => { results := [.lit (.bool true)], args := [d1, d2] }
  | _ => none }
def fnExactHasPlayerRow : OpenClaim := { program := "ytkaelmankhepdaa", sum := "c120e577db96f2d69133301e45d3b2bd5a2b402e9729745fa4456e5de56fd662", func := "loop.example/g00520/laws.FnExactHasPlayer", spec := "fnExactHasPlayer", apart := false }
def FnExactHasPlayerSaid : Prop := fnExactHasPlayerRow.holds Try.pinned (OpenSpec.ofChange fnExactHasPlayerSpec)

/-- ITS FALSE NEIGHBOUR: 'it returns false'. Refute it at one input. -/
def fnExactHasPlayerWrong : ChangeSpec := { name := "fnExactHasPlayer", fn := fun _ => fun
  | [d1, d2] => { results := [.lit (.bool false)], args := [d1, d2] }
  | _ => none }
def FnExactHasPlayerWrongFalsely : Prop := fnExactHasPlayerRow.holds Try.pinned (OpenSpec.ofChange fnExactHasPlayerWrong)

/-- 'laws.FnExactSizeOf': WHATEVER THE INPUT: true; the input reads as it did. -/
def fnExactSizeOfSpec : ChangeSpec := { name := "fnExactSizeOf", fn := fun _ => fun
  | [d] => { results := [.lit (.bool true)], args := [d] }
  | _ => none }
def fnExactSizeOfRow : OpenClaim := { program := "ytkaelmankhepdaa", sum := "c120e577db96f2d69133301e45d3b2bd5a2b402e9729745fa4456e5de56fd662", func := "loop.example/g00520/laws.FnExactSizeOf", spec := "fnExactSizeOf", apart := false }
def FnExactSizeOfSaid : Prop := fnExactSizeOfRow.holds Try.pinned (OpenSpec.ofChange fnExactSizeOfSpec)

/-- ITS FALSE NEIGHBOUR: 'it returns false'. Refute it at one input. -/
def fnExactSizeOfWrong : ChangeSpec := { name := "fnExactSizeOf", fn := fun _ => fun
  | [d] => { results := [.lit (.bool false)], args := [d] }
  | _ => none }
def FnExactSizeOfWrongFalsely : Prop := fnExactSizeOfRow.holds Try.pinned (OpenSpec.ofChange fnExactSizeOfWrong)

/-- 'laws.FnExactIsSubset': WHATEVER THE INPUT: true; the input reads as it did. -/
def fnExactIsSubsetSpec : ChangeSpec := { name := "fnExactIsSubset", fn := fun _ => fun
  | [d1, d2] => { results := [.lit (.bool true)], args := [d1, d2] }
  | _ => none }
def fnExactIsSubsetRow : OpenClaim := { program := "ytkaelmankhepdaa", sum := "c120e577db96f2d69133301e45d3b2bd5a2b402e9729745fa4456e5de56fd662", func := "loop.example/g00520/laws.FnExactIsSubset", spec := "fnExactIsSubset", apart := false }
def FnExactIsSubsetSaid : Prop := fnExactIsSubsetRow.holds Try.pinned (OpenSpec.ofChange fnExactIsSubsetSpec)

/-- ITS FALSE NEIGHBOUR: 'it returns false'. Refute it at one input. -/
def fnExactIsSubsetWrong : ChangeSpec := { name := "fnExactIsSubset", fn := fun _ => fun
  | [d1, d2] => { results := [.lit (.bool false)], args := [d1, d2] }
  | _ => none }
def FnExactIsSubsetWrongFalsely : Prop := fnExactIsSubsetRow.holds Try.pinned (OpenSpec.ofChange fnExactIsSubsetWrong)

/-- 'laws.FnExactUnion': WHATEVER THE INPUT: true; the input reads as it did. -/
def fnExactUnionSpec : ChangeSpec := { name := "fnExactUnion", fn := fun _ => fun
  | [d1, d2] => { results := [.lit (.bool true)], args := [d1, d2] }
  | _ => none }
def fnExactUnionRow : OpenClaim := { program := "ytkaelmankhepdaa", sum := "c120e577db96f2d69133301e45d3b2bd5a2b402e9729745fa4456e5de56fd662", func := "loop.example/g00520/laws.FnExactUnion", spec := "fnExactUnion", apart := false }
def FnExactUnionSaid : Prop := fnExactUnionRow.holds Try.pinned (OpenSpec.ofChange fnExactUnionSpec)

/-- ITS FALSE NEIGHBOUR: 'it returns false'. Refute it at one input. -/
def fnExactUnionWrong : ChangeSpec := { name := "fnExactUnion", fn := fun _ => fun
  | [d1, d2] => { results := [.lit (.bool false)], args := [d1, d2] }
  | _ => none }
def FnExactUnionWrongFalsely : Prop := fnExactUnionRow.holds Try.pinned (OpenSpec.ofChange fnExactUnionWrong)

/-- 'laws.FnExactOverlap': WHATEVER THE INPUT: true; the input reads as it did. -/
def fnExactOverlapSpec : ChangeSpec := { name := "fnExactOverlap", fn := fun _ => fun
  | [d1, d2] => { results := [.lit (.bool true)], args := [d1, d2] }
  | _ => none }
def fnExactOverlapRow : OpenClaim := { program := "ytkaelmankhepdaa", sum := "c120e577db96f2d69133301e45d3b2bd5a2b402e9729745fa4456e5de56fd662", func := "loop.example/g00520/laws.FnExactOverlap", spec := "fnExactOverlap", apart := false }
def FnExactOverlapSaid : Prop := fnExactOverlapRow.holds Try.pinned (OpenSpec.ofChange fnExactOverlapSpec)

/-- ITS FALSE NEIGHBOUR: 'it returns false'. Refute it at one input. -/
def fnExactOverlapWrong : ChangeSpec := { name := "fnExactOverlap", fn := fun _ => fun
  | [d1, d2] => { results := [.lit (.bool false)], args := [d1, d2] }
  | _ => none }
def FnExactOverlapWrongFalsely : Prop := fnExactOverlapRow.holds Try.pinned (OpenSpec.ofChange fnExactOverlapWrong)

/-- 'laws.FnExactMembersOf': WHATEVER THE INPUT: true; the input reads as it did. -/
def fnExactMembersOfSpec : ChangeSpec := { name := "fnExactMembersOf", fn := fun _ => fun
  | [d] => { results := [.lit (.bool true)], args := [d] }
  | _ => none }
def fnExactMembersOfRow : OpenClaim := { program := "ytkaelmankhepdaa", sum := "c120e577db96f2d69133301e45d3b2bd5a2b402e9729745fa4456e5de56fd662", func := "loop.example/g00520/laws.FnExactMembersOf", spec := "fnExactMembersOf", apart := false }
def FnExactMembersOfSaid : Prop := fnExactMembersOfRow.holds Try.pinned (OpenSpec.ofChange fnExactMembersOfSpec)

/-- ITS FALSE NEIGHBOUR: 'it returns false'. Refute it at one input. -/
def fnExactMembersOfWrong : ChangeSpec := { name := "fnExactMembersOf", fn := fun _ => fun
  | [d] => { results := [.lit (.bool false)], args := [d] }
  | _ => none }
def FnExactMembersOfWrongFalsely : Prop := fnExactMembersOfRow.holds Try.pinned (OpenSpec.ofChange fnExactMembersOfWrong)

/-- 'laws.FnExactFormatCoalition': WHATEVER THE INPUT: true; the input reads as it did. -/
def fnExactFormatCoalitionSpec : ChangeSpec := { name := "fnExactFormatCoalition", fn := fun _ => fun
  | [d] => { results := [.lit (.bool true)], args := [d] }
  | _ => none }
def fnExactFormatCoalitionRow : OpenClaim := { program := "ytkaelmankhepdaa", sum := "c120e577db96f2d69133301e45d3b2bd5a2b402e9729745fa4456e5de56fd662", func := "loop.example/g00520/laws.FnExactFormatCoalition", spec := "fnExactFormatCoalition", apart := false }
def FnExactFormatCoalitionSaid : Prop := fnExactFormatCoalitionRow.holds Try.pinned (OpenSpec.ofChange fnExactFormatCoalitionSpec)

/-- ITS FALSE NEIGHBOUR: 'it returns false'. Refute it at one input. -/
def fnExactFormatCoalitionWrong : ChangeSpec := { name := "fnExactFormatCoalition", fn := fun _ => fun
  | [d] => { results := [.lit (.bool false)], args := [d] }
  | _ => none }
def FnExactFormatCoalitionWrongFalsely : Prop := fnExactFormatCoalitionRow.holds Try.pinned (OpenSpec.ofChange fnExactFormatCoalitionWrong)

/-- 'laws.FnExactParseCoalition': WHATEVER THE INPUT: true; the input reads as it did. -/
def fnExactParseCoalitionSpec : ChangeSpec := { name := "fnExactParseCoalition", fn := fun _ => fun
  | [d] => { results := [.lit (.bool true)], args := [d] }
  | _ => none }
def fnExactParseCoalitionRow : OpenClaim := { program := "ytkaelmankhepdaa", sum := "c120e577db96f2d69133301e45d3b2bd5a2b402e9729745fa4456e5de56fd662", func := "loop.example/g00520/laws.FnExactParseCoalition", spec := "fnExactParseCoalition", apart := false }
def FnExactParseCoalitionSaid : Prop := fnExactParseCoalitionRow.holds Try.pinned (OpenSpec.ofChange fnExactParseCoalitionSpec)

/-- ITS FALSE NEIGHBOUR: 'it returns false'. Refute it at one input. -/
def fnExactParseCoalitionWrong : ChangeSpec := { name := "fnExactParseCoalition", fn := fun _ => fun
  | [d] => { results := [.lit (.bool false)], args := [d] }
  | _ => none }
def FnExactParseCoalitionWrongFalsely : Prop := fnExactParseCoalitionRow.holds Try.pinned (OpenSpec.ofChange fnExactParseCoalitionWrong)

/- THE SECOND FORM. 'bulk': how many values and letters a reading holds, each counted each time it is reached (what is shared counts as often as it is met; a slice's spare places count too). A statement '..UptoSaid' is the law's where the arguments, and the package variables that the reading takes, are together of bulk at most 1048576: NARROWER than '..Said'. Prove '..Said' where nothing that the law and all that it calls make is longer than what came in: it says more and counts as full. Else prove '..UptoSaid'. A law counts once. -/
mutual
def uptoBulk {H : Type} : DataW H → Nat
  | .lit (.string bytes) => bytes.length + 1
  | .lit _ => 1
  | .nil => 1
  | .ptr d => uptoBulk d + 1
  | .slice elems spare => uptoBulkAll elems + uptoBulkAll spare + 1
  | .agg parts => uptoBulkAll parts + 1
  | .iface _ d => uptoBulk d + 1
  | .map entries => uptoBulkEntries entries + 1
  | .held _ => 1
def uptoBulkAll {H : Type} : List (DataW H) → Nat
  | [] => 0
  | d :: r => uptoBulk d + uptoBulkAll r
def uptoBulkEntries {H : Type} : List (Lit × DataW H) → Nat
  | [] => 0
  | x :: r => uptoBulkEntry x + uptoBulkEntries r
def uptoBulkEntry {H : Type} : Lit × DataW H → Nat
  | (.string bytes, d) => bytes.length + uptoBulk d + 1
  | (_, d) => uptoBulk d + 1
 end
def uptoSmall : (H : Type) → List (DataW H) → Bool := fun _ ds => decide (uptoBulkAll ds ≤ 1048576)
def OpenSpec.upto (s : _root_.Go.ChangeSpec) : _root_.Go.OpenSpec := { _root_.Go.OpenSpec.ofChange s with cond := some uptoSmall }

/-- 'laws.FnCoalitions', WHERE WHAT IT READS IS OF BULK AT MOST 1048576: true; the input reads as it did. -/
def fnCoalitionsUptoRow : OpenClaim := { program := "ytkaelmankhepdaa", sum := "c120e577db96f2d69133301e45d3b2bd5a2b402e9729745fa4456e5de56fd662", func := "loop.example/g00520/laws.FnCoalitions", spec := "fnCoalitions", apart := false, narrowed := true }
def FnCoalitionsUptoSaid : Prop := fnCoalitionsUptoRow.holds Try.pinned (OpenSpec.upto fnCoalitionsSpec)

/-- 'laws.FnExactCountCoalitions', WHERE WHAT IT READS IS OF BULK AT MOST 1048576: true; the input reads as it did. -/
def fnExactCountCoalitionsUptoRow : OpenClaim := { program := "ytkaelmankhepdaa", sum := "c120e577db96f2d69133301e45d3b2bd5a2b402e9729745fa4456e5de56fd662", func := "loop.example/g00520/laws.FnExactCountCoalitions", spec := "fnExactCountCoalitions", apart := false, narrowed := true }
def FnExactCountCoalitionsUptoSaid : Prop := fnExactCountCoalitionsUptoRow.holds Try.pinned (OpenSpec.upto fnExactCountCoalitionsSpec)

/-- 'laws.FnExactHasPlayer', WHERE WHAT IT READS IS OF BULK AT MOST 1048576: true; the input reads as it did. -/
def fnExactHasPlayerUptoRow : OpenClaim := { program := "ytkaelmankhepdaa", sum := "c120e577db96f2d69133301e45d3b2bd5a2b402e9729745fa4456e5de56fd662", func := "loop.example/g00520/laws.FnExactHasPlayer", spec := "fnExactHasPlayer", apart := false, narrowed := true }
def FnExactHasPlayerUptoSaid : Prop := fnExactHasPlayerUptoRow.holds Try.pinned (OpenSpec.upto fnExactHasPlayerSpec)

/-- 'laws.FnExactSizeOf', WHERE WHAT IT READS IS OF BULK AT MOST 1048576: true; the input reads as it did. -/
def fnExactSizeOfUptoRow : OpenClaim := { program := "ytkaelmankhepdaa", sum := "c120e577db96f2d69133301e45d3b2bd5a2b402e9729745fa4456e5de56fd662", func := "loop.example/g00520/laws.FnExactSizeOf", spec := "fnExactSizeOf", apart := false, narrowed := true }
def FnExactSizeOfUptoSaid : Prop := fnExactSizeOfUptoRow.holds Try.pinned (OpenSpec.upto fnExactSizeOfSpec)

/-- 'laws.FnExactIsSubset', WHERE WHAT IT READS IS OF BULK AT MOST 1048576: true; the input reads as it did. -/
def fnExactIsSubsetUptoRow : OpenClaim := { program := "ytkaelmankhepdaa", sum := "c120e577db96f2d69133301e45d3b2bd5a2b402e9729745fa4456e5de56fd662", func := "loop.example/g00520/laws.FnExactIsSubset", spec := "fnExactIsSubset", apart := false, narrowed := true }
def FnExactIsSubsetUptoSaid : Prop := fnExactIsSubsetUptoRow.holds Try.pinned (OpenSpec.upto fnExactIsSubsetSpec)

/-- 'laws.FnExactUnion', WHERE WHAT IT READS IS OF BULK AT MOST 1048576: true; the input reads as it did. -/
def fnExactUnionUptoRow : OpenClaim := { program := "ytkaelmankhepdaa", sum := "c120e577db96f2d69133301e45d3b2bd5a2b402e9729745fa4456e5de56fd662", func := "loop.example/g00520/laws.FnExactUnion", spec := "fnExactUnion", apart := false, narrowed := true }
def FnExactUnionUptoSaid : Prop := fnExactUnionUptoRow.holds Try.pinned (OpenSpec.upto fnExactUnionSpec)

/-- 'laws.FnExactOverlap', WHERE WHAT IT READS IS OF BULK AT MOST 1048576: true; the input reads as it did. -/
def fnExactOverlapUptoRow : OpenClaim := { program := "ytkaelmankhepdaa", sum := "c120e577db96f2d69133301e45d3b2bd5a2b402e9729745fa4456e5de56fd662", func := "loop.example/g00520/laws.FnExactOverlap", spec := "fnExactOverlap", apart := false, narrowed := true }
def FnExactOverlapUptoSaid : Prop := fnExactOverlapUptoRow.holds Try.pinned (OpenSpec.upto fnExactOverlapSpec)

/-- 'laws.FnExactMembersOf', WHERE WHAT IT READS IS OF BULK AT MOST 1048576: true; the input reads as it did. -/
def fnExactMembersOfUptoRow : OpenClaim := { program := "ytkaelmankhepdaa", sum := "c120e577db96f2d69133301e45d3b2bd5a2b402e9729745fa4456e5de56fd662", func := "loop.example/g00520/laws.FnExactMembersOf", spec := "fnExactMembersOf", apart := false, narrowed := true }
def FnExactMembersOfUptoSaid : Prop := fnExactMembersOfUptoRow.holds Try.pinned (OpenSpec.upto fnExactMembersOfSpec)

/-- 'laws.FnExactFormatCoalition', WHERE WHAT IT READS IS OF BULK AT MOST 1048576: true; the input reads as it did. -/
def fnExactFormatCoalitionUptoRow : OpenClaim := { program := "ytkaelmankhepdaa", sum := "c120e577db96f2d69133301e45d3b2bd5a2b402e9729745fa4456e5de56fd662", func := "loop.example/g00520/laws.FnExactFormatCoalition", spec := "fnExactFormatCoalition", apart := false, narrowed := true }
def FnExactFormatCoalitionUptoSaid : Prop := fnExactFormatCoalitionUptoRow.holds Try.pinned (OpenSpec.upto fnExactFormatCoalitionSpec)

/-- 'laws.FnExactParseCoalition', WHERE WHAT IT READS IS OF BULK AT MOST 1048576: true; the input reads as it did. -/
def fnExactParseCoalitionUptoRow : OpenClaim := { program := "ytkaelmankhepdaa", sum := "c120e577db96f2d69133301e45d3b2bd5a2b402e9729745fa4456e5de56fd662", func := "loop.example/g00520/laws.FnExactParseCoalition", spec := "fnExactParseCoalition", apart := false, narrowed := true }
def FnExactParseCoalitionUptoSaid : Prop := fnExactParseCoalitionUptoRow.holds Try.pinned (OpenSpec.upto fnExactParseCoalitionSpec)

end Rows
end Go.Proofs.Ytkaelmankhepdaa
