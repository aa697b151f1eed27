/-
  No cell of these rows narrows 'for every input' (looked for: loops, veiled, ifaces, maps, wideKeys, modest, calm, conditions, laid).
  DERIVED. THE GIVEN ROWS OF THIS SEAT. 8 by the template 'for every input the law returns true; each argument reads behind the call as it read before'; 0 by the template 'total and deterministic' (their statements: YtpidlmmpejoeaaaTotals.lean).
  GIVEN WITH THE SEED: the statements are not yours to turn. If you find one false, say at which input.
  Laid BY PROGRAM, IN A SANDBOX (cutbox-rows.mjs): the forced cells as the released guide's own fill.sh prints them over the translation ad90345e5bed872f… (all of the seat's roots in one cut). By AI agents, Wed Nov 11 2026. No macro, syntax, notation, axiom, sorry.
-/
import Derived.Test.YtpidlmmpejoeaaaChecked
import GoSem.Claim
import GoSem.ClaimJoined
import GoSem.ClaimMapViews
import Derived.JoinedTies
import Derived.KernelRfl
namespace Go.Proofs.Ytpidlmmpejoeaaa
/- THE CELL 'sum', in the pinned program and in every row, IS THE sha256 OF THE DUMP (.gsa) THAT YtpidlmmpejoeaaaProg.lean LOADS. Nothing in Lean hashes anything: it is a label: what it is worth is what the hold of that sum in a sandbox is worth. -/
noncomputable def Try.pinned : Pinned := { name := "ytpidlmmpejoeaaa", sum := "ad90345e5bed872f093096b1086101ace1e56b256a419eec448669f5d797be80", checked := Try.checked }
namespace Rows
def none {H : Type} : Left H := { results := [], args := [] }

/-- 'laws.FnExactShareOf': WHATEVER THE INPUT: true; the input reads as it did. -/
def fnExactShareOfSpec : ChangeSpec := { name := "fnExactShareOf", fn := fun _ => fun
  | [d1, d2] => { results := [.lit (.bool true)], args := [d1, d2] }
  | _ => none }
def fnExactShareOfRow : OpenClaim := { program := "ytpidlmmpejoeaaa", sum := "ad90345e5bed872f093096b1086101ace1e56b256a419eec448669f5d797be80", func := "loop.example/g00520/laws.FnExactShareOf", spec := "fnExactShareOf", apart := false }
def FnExactShareOfSaid : Prop := fnExactShareOfRow.holds Try.pinned (OpenSpec.ofChange fnExactShareOfSpec)

/-- ITS FALSE NEIGHBOUR: 'it returns false'. Refute it at one input. -/
def fnExactShareOfWrong : ChangeSpec := { name := "fnExactShareOf", fn := fun _ => fun
  | [d1, d2] => { results := [.lit (.bool false)], args := [d1, d2] }
  | _ => none }
def FnExactShareOfWrongFalsely : Prop := fnExactShareOfRow.holds Try.pinned (OpenSpec.ofChange fnExactShareOfWrong)

/-- 'laws.FnExactIsPayoff': WHATEVER THE INPUT: true; the input reads as it did. -/
def fnExactIsPayoffSpec : ChangeSpec := { name := "fnExactIsPayoff", fn := fun _ => fun
  | [d1, d2] => { results := [.lit (.bool true)], args := [d1, d2] }
  | _ => none }
def fnExactIsPayoffRow : OpenClaim := { program := "ytpidlmmpejoeaaa", sum := "ad90345e5bed872f093096b1086101ace1e56b256a419eec448669f5d797be80", func := "loop.example/g00520/laws.FnExactIsPayoff", spec := "fnExactIsPayoff", apart := false }
def FnExactIsPayoffSaid : Prop := fnExactIsPayoffRow.holds Try.pinned (OpenSpec.ofChange fnExactIsPayoffSpec)

/-- ITS FALSE NEIGHBOUR: 'it returns false'. Refute it at one input. -/
def fnExactIsPayoffWrong : ChangeSpec := { name := "fnExactIsPayoff", fn := fun _ => fun
  | [d1, d2] => { results := [.lit (.bool false)], args := [d1, d2] }
  | _ => none }
def FnExactIsPayoffWrongFalsely : Prop := fnExactIsPayoffRow.holds Try.pinned (OpenSpec.ofChange fnExactIsPayoffWrong)

/-- 'laws.FnExactExcessOf': WHATEVER THE INPUT: true; the input reads as it did. -/
def fnExactExcessOfSpec : ChangeSpec := { name := "fnExactExcessOf", fn := fun _ => fun
  | [d1, d2, d3] => { results := [.lit (.bool true)], args := [d1, d2, d3] }
  | _ => none }
def fnExactExcessOfRow : OpenClaim := { program := "ytpidlmmpejoeaaa", sum := "ad90345e5bed872f093096b1086101ace1e56b256a419eec448669f5d797be80", func := "loop.example/g00520/laws.FnExactExcessOf", spec := "fnExactExcessOf", apart := false }
def FnExactExcessOfSaid : Prop := fnExactExcessOfRow.holds Try.pinned (OpenSpec.ofChange fnExactExcessOfSpec)

/-- ITS FALSE NEIGHBOUR: 'it returns false'. Refute it at one input. -/
def fnExactExcessOfWrong : ChangeSpec := { name := "fnExactExcessOf", fn := fun _ => fun
  | [d1, d2, d3] => { results := [.lit (.bool false)], args := [d1, d2, d3] }
  | _ => none }
def FnExactExcessOfWrongFalsely : Prop := fnExactExcessOfRow.holds Try.pinned (OpenSpec.ofChange fnExactExcessOfWrong)

/-- 'laws.FnExactWorstExcess': WHATEVER THE INPUT: true; the input reads as it did. -/
def fnExactWorstExcessSpec : ChangeSpec := { name := "fnExactWorstExcess", fn := fun _ => fun
  | [d1, d2] => { results := [.lit (.bool true)], args := [d1, d2] }
  | _ => none }
def fnExactWorstExcessRow : OpenClaim := { program := "ytpidlmmpejoeaaa", sum := "ad90345e5bed872f093096b1086101ace1e56b256a419eec448669f5d797be80", func := "loop.example/g00520/laws.FnExactWorstExcess", spec := "fnExactWorstExcess", unfollowed := true, recurses := true, apart := false }
def FnExactWorstExcessSaid : Prop := fnExactWorstExcessRow.holds Try.pinned (OpenSpec.ofChange fnExactWorstExcessSpec)

/-- ITS FALSE NEIGHBOUR: 'it returns false'. Refute it at one input. -/
def fnExactWorstExcessWrong : ChangeSpec := { name := "fnExactWorstExcess", fn := fun _ => fun
  | [d1, d2] => { results := [.lit (.bool false)], args := [d1, d2] }
  | _ => none }
def FnExactWorstExcessWrongFalsely : Prop := fnExactWorstExcessRow.holds Try.pinned (OpenSpec.ofChange fnExactWorstExcessWrong)

/-- 'laws.FnExactInCore': WHATEVER THE INPUT: true; the input reads as it did. -/
def fnExactInCoreSpec : ChangeSpec := { name := "fnExactInCore", fn := fun _ => fun
  | [d1, d2] => { results := [.lit (.bool true)], args := [d1, d2] }
  | _ => none }
def fnExactInCoreRow : OpenClaim := { program := "ytpidlmmpejoeaaa", sum := "ad90345e5bed872f093096b1086101ace1e56b256a419eec448669f5d797be80", func := "loop.example/g00520/laws.FnExactInCore", spec := "fnExactInCore", unfollowed := true, recurses := true, apart := false }
def FnExactInCoreSaid : Prop := fnExactInCoreRow.holds Try.pinned (OpenSpec.ofChange fnExactInCoreSpec)

/-- ITS FALSE NEIGHBOUR: 'it returns false'. Refute it at one input. -/
def fnExactInCoreWrong : ChangeSpec := { name := "fnExactInCore", fn := fun _ => fun
  | [d1, d2] => { results := [.lit (.bool false)], args := [d1, d2] }
  | _ => none }
def FnExactInCoreWrongFalsely : Prop := fnExactInCoreRow.holds Try.pinned (OpenSpec.ofChange fnExactInCoreWrong)

/-- 'laws.FnExactIsImputation': WHATEVER THE INPUT: true; the input reads as it did. -/
def fnExactIsImputationSpec : ChangeSpec := { name := "fnExactIsImputation", fn := fun _ => fun
  | [d1, d2] => { results := [.lit (.bool true)], args := [d1, d2] }
  | _ => none }
def fnExactIsImputationRow : OpenClaim := { program := "ytpidlmmpejoeaaa", sum := "ad90345e5bed872f093096b1086101ace1e56b256a419eec448669f5d797be80", func := "loop.example/g00520/laws.FnExactIsImputation", spec := "fnExactIsImputation", apart := false }
def FnExactIsImputationSaid : Prop := fnExactIsImputationRow.holds Try.pinned (OpenSpec.ofChange fnExactIsImputationSpec)

/-- ITS FALSE NEIGHBOUR: 'it returns false'. Refute it at one input. -/
def fnExactIsImputationWrong : ChangeSpec := { name := "fnExactIsImputation", fn := fun _ => fun
  | [d1, d2] => { results := [.lit (.bool false)], args := [d1, d2] }
  | _ => none }
def FnExactIsImputationWrongFalsely : Prop := fnExactIsImputationRow.holds Try.pinned (OpenSpec.ofChange fnExactIsImputationWrong)

/-- 'laws.FnExactExcessVector': WHATEVER THE INPUT: true; the input reads as it did. -/
def fnExactExcessVectorSpec : ChangeSpec := { name := "fnExactExcessVector", fn := fun _ => fun
  | [d1, d2] => { results := [.lit (.bool true)], args := [d1, d2] }
  | _ => none }
def fnExactExcessVectorRow : OpenClaim := { program := "ytpidlmmpejoeaaa", sum := "ad90345e5bed872f093096b1086101ace1e56b256a419eec448669f5d797be80", func := "loop.example/g00520/laws.FnExactExcessVector", spec := "fnExactExcessVector", unfollowed := true, recurses := true, apart := false }
def FnExactExcessVectorSaid : Prop := fnExactExcessVectorRow.holds Try.pinned (OpenSpec.ofChange fnExactExcessVectorSpec)

/-- ITS FALSE NEIGHBOUR: 'it returns false'. Refute it at one input. -/
def fnExactExcessVectorWrong : ChangeSpec := { name := "fnExactExcessVector", fn := fun _ => fun
  | [d1, d2] => { results := [.lit (.bool false)], args := [d1, d2] }
  | _ => none }
def FnExactExcessVectorWrongFalsely : Prop := fnExactExcessVectorRow.holds Try.pinned (OpenSpec.ofChange fnExactExcessVectorWrong)

/-- 'laws.FnExactCompareExcesses': WHATEVER THE INPUT: true; the input reads as it did. -/
def fnExactCompareExcessesSpec : ChangeSpec := { name := "fnExactCompareExcesses", fn := fun _ => fun
  | [d1, d2] => { results := [.lit (.bool true)], args := [d1, d2] }
  | _ => none }
def fnExactCompareExcessesRow : OpenClaim := { program := "ytpidlmmpejoeaaa", sum := "ad90345e5bed872f093096b1086101ace1e56b256a419eec448669f5d797be80", func := "loop.example/g00520/laws.FnExactCompareExcesses", spec := "fnExactCompareExcesses", unfollowed := true, recurses := true, apart := false }
def FnExactCompareExcessesSaid : Prop := fnExactCompareExcessesRow.holds Try.pinned (OpenSpec.ofChange fnExactCompareExcessesSpec)

/-- ITS FALSE NEIGHBOUR: 'it returns false'. Refute it at one input. -/
def fnExactCompareExcessesWrong : ChangeSpec := { name := "fnExactCompareExcesses", fn := fun _ => fun
  | [d1, d2] => { results := [.lit (.bool false)], args := [d1, d2] }
  | _ => none }
def FnExactCompareExcessesWrongFalsely : Prop := fnExactCompareExcessesRow.holds Try.pinned (OpenSpec.ofChange fnExactCompareExcessesWrong)

/- THE SECOND FORM. 'bulk': how many values and letters a reading holds, each counted each time it is reached (what is shared counts as often as it is met; a slice's spare places count too). A statement '..UptoSaid' is the law's where the arguments, and the package variables that the reading takes, are together of bulk at most 1048576: NARROWER than '..Said'. Prove '..Said' where nothing that the law and all that it calls make is longer than what came in: it says more and counts as full. Else prove '..UptoSaid'. A law counts once. -/
mutual
def uptoBulk {H : Type} : DataW H → Nat
  | .lit (.string bytes) => bytes.length + 1
  | .lit _ => 1
  | .nil => 1
  | .ptr d => uptoBulk d + 1
  | .slice elems spare => uptoBulkAll elems + uptoBulkAll spare + 1
  | .agg parts => uptoBulkAll parts + 1
  | .iface _ d => uptoBulk d + 1
  | .map entries => uptoBulkEntries entries + 1
  | .held _ => 1
def uptoBulkAll {H : Type} : List (DataW H) → Nat
  | [] => 0
  | d :: r => uptoBulk d + uptoBulkAll r
def uptoBulkEntries {H : Type} : List (Lit × DataW H) → Nat
  | [] => 0
  | x :: r => uptoBulkEntry x + uptoBulkEntries r
def uptoBulkEntry {H : Type} : Lit × DataW H → Nat
  | (.string bytes, d) => bytes.length + uptoBulk d + 1
  | (_, d) => uptoBulk d + 1
 end
def uptoSmall : (H : Type) → List (DataW H) → Bool := fun _ ds => decide (uptoBulkAll ds ≤ 1048576)
def OpenSpec.upto (s : _root_.Go.ChangeSpec) : _root_.Go.OpenSpec := { _root_.Go.OpenSpec.ofChange s with cond := some uptoSmall }

/-- 'laws.FnExactShareOf', WHERE WHAT IT READS IS OF BULK AT MOST 1048576: true; the input reads as it did. -/
def fnExactShareOfUptoRow : OpenClaim := { program := "ytpidlmmpejoeaaa", sum := "ad90345e5bed872f093096b1086101ace1e56b256a419eec448669f5d797be80", func := "loop.example/g00520/laws.FnExactShareOf", spec := "fnExactShareOf", apart := false, narrowed := true }
def FnExactShareOfUptoSaid : Prop := fnExactShareOfUptoRow.holds Try.pinned (OpenSpec.upto fnExactShareOfSpec)

/-- 'laws.FnExactIsPayoff', WHERE WHAT IT READS IS OF BULK AT MOST 1048576: true; the input reads as it did. -/
def fnExactIsPayoffUptoRow : OpenClaim := { program := "ytpidlmmpejoeaaa", sum := "ad90345e5bed872f093096b1086101ace1e56b256a419eec448669f5d797be80", func := "loop.example/g00520/laws.FnExactIsPayoff", spec := "fnExactIsPayoff", apart := false, narrowed := true }
def FnExactIsPayoffUptoSaid : Prop := fnExactIsPayoffUptoRow.holds Try.pinned (OpenSpec.upto fnExactIsPayoffSpec)

/-- 'laws.FnExactExcessOf', WHERE WHAT IT READS IS OF BULK AT MOST 1048576: true; the input reads as it did. -/
def fnExactExcessOfUptoRow : OpenClaim := { program := "ytpidlmmpejoeaaa", sum := "ad90345e5bed872f093096b1086101ace1e56b256a419eec448669f5d797be80", func := "loop.example/g00520/laws.FnExactExcessOf", spec := "fnExactExcessOf", apart := false, narrowed := true }
def FnExactExcessOfUptoSaid : Prop := fnExactExcessOfUptoRow.holds Try.pinned (OpenSpec.upto fnExactExcessOfSpec)

/-- 'laws.FnExactWorstExcess', WHERE WHAT IT READS IS OF BULK AT MOST 1048576: true; the input reads as it did. -/
def fnExactWorstExcessUptoRow : OpenClaim := { program := "ytpidlmmpejoeaaa", sum := "ad90345e5bed872f093096b1086101ace1e56b256a419eec448669f5d797be80", func := "loop.example/g00520/laws.FnExactWorstExcess", spec := "fnExactWorstExcess", unfollowed := true, recurses := true, apart := false, narrowed := true }
def FnExactWorstExcessUptoSaid : Prop := fnExactWorstExcessUptoRow.holds Try.pinned (OpenSpec.upto fnExactWorstExcessSpec)

/-- 'laws.FnExactInCore', WHERE WHAT IT READS IS OF BULK AT MOST 1048576: true; the input reads as it did. -/
def fnExactInCoreUptoRow : OpenClaim := { program := "ytpidlmmpejoeaaa", sum := "ad90345e5bed872f093096b1086101ace1e56b256a419eec448669f5d797be80", func := "loop.example/g00520/laws.FnExactInCore", spec := "fnExactInCore", unfollowed := true, recurses := true, apart := false, narrowed := true }
def FnExactInCoreUptoSaid : Prop := fnExactInCoreUptoRow.holds Try.pinned (OpenSpec.upto fnExactInCoreSpec)

/-- 'laws.FnExactIsImputation', WHERE WHAT IT READS IS OF BULK AT MOST 1048576: true; the input reads as it did. -/
def fnExactIsImputationUptoRow : OpenClaim := { program := "ytpidlmmpejoeaaa", sum := "ad90345e5bed872f093096b1086101ace1e56b256a419eec448669f5d797be80", func := "loop.example/g00520/laws.FnExactIsImputation", spec := "fnExactIsImputation", apart := false, narrowed := true }
def FnExactIsImputationUptoSaid : Prop := fnExactIsImputationUptoRow.holds Try.pinned (OpenSpec.upto fnExactIsImputationSpec)

/-- 'laws.FnExactExcessVector', WHERE WHAT IT READS IS OF BULK AT MOST 1048576: true; the input reads as it did. -/
def fnExactExcessVectorUptoRow : OpenClaim := { program := "ytpidlmmpejoeaaa", sum := "ad90345e5bed872f093096b1086101ace1e56b256a419eec448669f5d797be80", func := "loop.example/g00520/laws.FnExactExcessVector", spec := "fnExactExcessVector", unfollowed := true, recurses := true, apart := false, narrowed := true }
def FnExactExcessVectorUptoSaid : Prop := fnExactExcessVectorUptoRow.holds Try.pinned (OpenSpec.upto fnExactExcessVectorSpec)

/-- 'laws.FnExactCompareExcesses', WHERE WHAT IT READS IS OF BULK AT MOST 1048576: true; the input reads as it did. -/
def fnExactCompareExcessesUptoRow : OpenClaim := { program := "ytpidlmmpejoeaaa", sum := "ad90345e5bed872f093096b1086101ace1e56b256a419eec448669f5d797be80", func := "loop.example/g00520/laws.FnExactCompareExcesses", spec := "fnExactCompareExcesses", unfollowed := true, recurses := true, apart := false, narrowed := true }
def FnExactCompareExcessesUptoSaid : Prop := fnExactCompareExcessesUptoRow.holds Try.pinned (OpenSpec.upto fnExactCompareExcessesSpec)

end Rows
end Go.Proofs.Ytpidlmmpejoeaaa
