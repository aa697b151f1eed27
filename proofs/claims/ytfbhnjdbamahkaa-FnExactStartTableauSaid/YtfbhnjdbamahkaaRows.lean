/-
  No cell of these rows narrows 'for every input' (looked for: loops, veiled, ifaces, maps, wideKeys, modest, calm, conditions, laid).
  DERIVED. THE GIVEN ROWS OF THIS SEAT. 6 by the template 'for every input the law returns true; each argument reads behind the call as it read before'; 0 by the template 'total and deterministic' (their statements: YtfbhnjdbamahkaaTotals.lean).
  GIVEN WITH THE SEED: the statements are not yours to turn. If you find one false, say at which input.
  Laid BY PROGRAM, IN A SANDBOX (cutbox-rows.mjs): the forced cells as the released guide's own fill.sh prints them over the translation 617ade0cca4272fb… (all of the seat's roots in one cut). By AI agents, Wed Nov 11 2026. No macro, syntax, notation, axiom, sorry.
-/
import Derived.Test.YtfbhnjdbamahkaaChecked
import GoSem.Claim
import GoSem.ClaimJoined
import GoSem.ClaimMapViews
import Derived.JoinedTies
import Derived.KernelRfl
namespace Go.Proofs.Ytfbhnjdbamahkaa
/- THE CELL 'sum', in the pinned program and in every row, IS THE sha256 OF THE DUMP (.gsa) THAT YtfbhnjdbamahkaaProg.lean LOADS. Nothing in Lean hashes anything: it is a label: what it is worth is what the hold of that sum in a sandbox is worth. -/
noncomputable def Try.pinned : Pinned := { name := "ytfbhnjdbamahkaa", sum := "617ade0cca4272fbba722263cba6f66bd8a3372b978eaea96f0954de5581a2ef", checked := Try.checked }
namespace Rows
def none {H : Type} : Left H := { results := [], args := [] }

/-- 'laws.FnTableaus': WHATEVER THE INPUT: true; the input reads as it did. -/
def fnTableausSpec : ChangeSpec := { name := "fnTableaus", fn := fun _ => fun
  | [d] => { results := [.lit (.bool true)], args := [d] }
  | _ => none }
def fnTableausRow : OpenClaim := { program := "ytfbhnjdbamahkaa", sum := "617ade0cca4272fbba722263cba6f66bd8a3372b978eaea96f0954de5581a2ef", func := "loop.example/g00520/laws.FnTableaus", spec := "fnTableaus", unfollowed := true, recurses := true, apart := false }
def FnTableausSaid : Prop := fnTableausRow.holds Try.pinned (OpenSpec.ofChange fnTableausSpec)

/-- ITS FALSE NEIGHBOUR: 'it returns false'. Refute it at one input. -/
def fnTableausWrong : ChangeSpec := { name := "fnTableaus", fn := fun _ => fun
  | [d] => { results := [.lit (.bool false)], args := [d] }
  | _ => none }
def FnTableausWrongFalsely : Prop := fnTableausRow.holds Try.pinned (OpenSpec.ofChange fnTableausWrong)

/-- 'laws.FnExactIsValidLP': WHATEVER THE INPUT: true; the input reads as it did. -/
def fnExactIsValidLPSpec : ChangeSpec := { name := "fnExactIsValidLP", fn := fun _ => fun
  | [d] => { results := [.lit (.bool true)], args := [d] }
  | _ => none }
def fnExactIsValidLPRow : OpenClaim := { program := "ytfbhnjdbamahkaa", sum := "617ade0cca4272fbba722263cba6f66bd8a3372b978eaea96f0954de5581a2ef", func := "loop.example/g00520/laws.FnExactIsValidLP", spec := "fnExactIsValidLP", apart := false }
def FnExactIsValidLPSaid : Prop := fnExactIsValidLPRow.holds Try.pinned (OpenSpec.ofChange fnExactIsValidLPSpec)

/-- ITS FALSE NEIGHBOUR: 'it returns false'. Refute it at one input. -/
def fnExactIsValidLPWrong : ChangeSpec := { name := "fnExactIsValidLP", fn := fun _ => fun
  | [d] => { results := [.lit (.bool false)], args := [d] }
  | _ => none }
def FnExactIsValidLPWrongFalsely : Prop := fnExactIsValidLPRow.holds Try.pinned (OpenSpec.ofChange fnExactIsValidLPWrong)

/-- 'laws.FnExactColumnOf': WHATEVER THE INPUT: true; the input reads as it did. -/
def fnExactColumnOfSpec : ChangeSpec := { name := "fnExactColumnOf", fn := fun _ => fun
  | [d1, d2] => { results := [.lit (.bool true)], args := [d1, d2] }
  | _ => none }
def fnExactColumnOfRow : OpenClaim := { program := "ytfbhnjdbamahkaa", sum := "617ade0cca4272fbba722263cba6f66bd8a3372b978eaea96f0954de5581a2ef", func := "loop.example/g00520/laws.FnExactColumnOf", spec := "fnExactColumnOf", apart := false }
def FnExactColumnOfSaid : Prop := fnExactColumnOfRow.holds Try.pinned (OpenSpec.ofChange fnExactColumnOfSpec)

/-- ITS FALSE NEIGHBOUR: 'it returns false'. Refute it at one input. -/
def fnExactColumnOfWrong : ChangeSpec := { name := "fnExactColumnOf", fn := fun _ => fun
  | [d1, d2] => { results := [.lit (.bool false)], args := [d1, d2] }
  | _ => none }
def FnExactColumnOfWrongFalsely : Prop := fnExactColumnOfRow.holds Try.pinned (OpenSpec.ofChange fnExactColumnOfWrong)

/-- 'laws.FnExactIsFeasible': WHATEVER THE INPUT: true; the input reads as it did. -/
def fnExactIsFeasibleSpec : ChangeSpec := { name := "fnExactIsFeasible", fn := fun _ => fun
  | [d1, d2] => { results := [.lit (.bool true)], args := [d1, d2] }
  | _ => none }
def fnExactIsFeasibleRow : OpenClaim := { program := "ytfbhnjdbamahkaa", sum := "617ade0cca4272fbba722263cba6f66bd8a3372b978eaea96f0954de5581a2ef", func := "loop.example/g00520/laws.FnExactIsFeasible", spec := "fnExactIsFeasible", unfollowed := true, recurses := true, apart := false }
def FnExactIsFeasibleSaid : Prop := fnExactIsFeasibleRow.holds Try.pinned (OpenSpec.ofChange fnExactIsFeasibleSpec)

/-- ITS FALSE NEIGHBOUR: 'it returns false'. Refute it at one input. -/
def fnExactIsFeasibleWrong : ChangeSpec := { name := "fnExactIsFeasible", fn := fun _ => fun
  | [d1, d2] => { results := [.lit (.bool false)], args := [d1, d2] }
  | _ => none }
def FnExactIsFeasibleWrongFalsely : Prop := fnExactIsFeasibleRow.holds Try.pinned (OpenSpec.ofChange fnExactIsFeasibleWrong)

/-- 'laws.FnExactCheckLP': WHATEVER THE INPUT: true; the input reads as it did. -/
def fnExactCheckLPSpec : ChangeSpec := { name := "fnExactCheckLP", fn := fun _ => fun
  | [d1, d2] => { results := [.lit (.bool true)], args := [d1, d2] }
  | _ => none }
def fnExactCheckLPRow : OpenClaim := { program := "ytfbhnjdbamahkaa", sum := "617ade0cca4272fbba722263cba6f66bd8a3372b978eaea96f0954de5581a2ef", func := "loop.example/g00520/laws.FnExactCheckLP", spec := "fnExactCheckLP", unfollowed := true, recurses := true, apart := false }
def FnExactCheckLPSaid : Prop := fnExactCheckLPRow.holds Try.pinned (OpenSpec.ofChange fnExactCheckLPSpec)

/-- ITS FALSE NEIGHBOUR: 'it returns false'. Refute it at one input. -/
def fnExactCheckLPWrong : ChangeSpec := { name := "fnExactCheckLP", fn := fun _ => fun
  | [d1, d2] => { results := [.lit (.bool false)], args := [d1, d2] }
  | _ => none }
def FnExactCheckLPWrongFalsely : Prop := fnExactCheckLPRow.holds Try.pinned (OpenSpec.ofChange fnExactCheckLPWrong)

/-- 'laws.FnExactStartTableau': WHATEVER THE INPUT: true; the input reads as it did. -/
def fnExactStartTableauSpec : ChangeSpec := { name := "fnExactStartTableau", fn := fun _ => fun
  | [d] => { results := [.lit (.bool true)], args := [d] }
  | _ => none }
def fnExactStartTableauRow : OpenClaim := { program := "ytfbhnjdbamahkaa", sum := "617ade0cca4272fbba722263cba6f66bd8a3372b978eaea96f0954de5581a2ef", func := "loop.example/g00520/laws.FnExactStartTableau", spec := "fnExactStartTableau", unfollowed := true, recurses := true, apart := false }
def FnExactStartTableauSaid : Prop := fnExactStartTableauRow.holds Try.pinned (OpenSpec.ofChange fnExactStartTableauSpec)

/-- ITS FALSE NEIGHBOUR: 'it returns false'. Refute it at one input. -/
def fnExactStartTableauWrong : ChangeSpec := { name := "fnExactStartTableau", fn := fun _ => fun
  | [d] => { results := [.lit (.bool false)], args := [d] }
  | _ => none }
def FnExactStartTableauWrongFalsely : Prop := fnExactStartTableauRow.holds Try.pinned (OpenSpec.ofChange fnExactStartTableauWrong)

/- THE SECOND FORM. 'bulk': how many values and letters a reading holds, each counted each time it is reached (what is shared counts as often as it is met; a slice's spare places count too). A statement '..UptoSaid' is the law's where the arguments, and the package variables that the reading takes, are together of bulk at most 1048576: NARROWER than '..Said'. Prove '..Said' where nothing that the law and all that it calls make is longer than what came in: it says more and counts as full. Else prove '..UptoSaid'. A law counts once. -/
mutual
def uptoBulk {H : Type} : DataW H → Nat
  | .lit (.string bytes) => bytes.length + 1
  | .lit _ => 1
  | .nil => 1
  | .ptr d => uptoBulk d + 1
  | .slice elems spare => uptoBulkAll elems + uptoBulkAll spare + 1
  | .agg parts => uptoBulkAll parts + 1
  | .iface _ d => uptoBulk d + 1
  | .map entries => uptoBulkEntries entries + 1
  | .held _ => 1
def uptoBulkAll {H : Type} : List (DataW H) → Nat
  | [] => 0
  | d :: r => uptoBulk d + uptoBulkAll r
def uptoBulkEntries {H : Type} : List (Lit × DataW H) → Nat
  | [] => 0
  | x :: r => uptoBulkEntry x + uptoBulkEntries r
def uptoBulkEntry {H : Type} : Lit × DataW H → Nat
  | (.string bytes, d) => bytes.length + uptoBulk d + 1
  | (_, d) => uptoBulk d + 1
 end
def uptoSmall : (H : Type) → List (DataW H) → Bool := fun _ ds => decide (uptoBulkAll ds ≤ 1048576)
def OpenSpec.upto (s : _root_.Go.ChangeSpec) : _root_.Go.OpenSpec := { _root_.Go.OpenSpec.ofChange s with cond := some uptoSmall }

/-- 'laws.FnTableaus', WHERE WHAT IT READS IS OF BULK AT MOST 1048576: true; the input reads as it did. -/
def fnTableausUptoRow : OpenClaim := { program := "ytfbhnjdbamahkaa", sum := "617ade0cca4272fbba722263cba6f66bd8a3372b978eaea96f0954de5581a2ef", func := "loop.example/g00520/laws.FnTableaus", spec := "fnTableaus", unfollowed := true, recurses := true, apart := false, narrowed := true }
def FnTableausUptoSaid : Prop := fnTableausUptoRow.holds Try.pinned (OpenSpec.upto fnTableausSpec)

/-- 'laws.FnExactIsValidLP', WHERE WHAT IT READS IS OF BULK AT MOST 1048576: true; the input reads as it did. -/
def fnExactIsValidLPUptoRow : OpenClaim := { program := "ytfbhnjdbamahkaa", sum := "617ade0cca4272fbba722263cba6f66bd8a3372b978eaea96f0954de5581a2ef", func := "loop.example/g00520/laws.FnExactIsValidLP", spec := "fnExactIsValidLP", apart := false, narrowed := true }
def FnExactIsValidLPUptoSaid : Prop := fnExactIsValidLPUptoRow.holds Try.pinned (OpenSpec.upto fnExactIsValidLPSpec)

/-- 'laws.FnExactColumnOf', WHERE WHAT IT READS IS OF BULK AT MOST 1048576: true; the input reads as it did. -/
def fnExactColumnOfUptoRow : OpenClaim := { program := "ytfbhnjdbamahkaa", sum := "617ade0cca4272fbba722263cba6f66bd8a3372b978eaea96f0954de5581a2ef", func := "loop.example/g00520/laws.FnExactColumnOf", spec := "fnExactColumnOf", apart := false, narrowed := true }
def FnExactColumnOfUptoSaid : Prop := fnExactColumnOfUptoRow.holds Try.pinned (OpenSpec.upto fnExactColumnOfSpec)

/-- 'laws.FnExactIsFeasible', WHERE WHAT IT READS IS OF BULK AT MOST 1048576: true; the input reads as it did. -/
def fnExactIsFeasibleUptoRow : OpenClaim := { program := "ytfbhnjdbamahkaa", sum := "617ade0cca4272fbba722263cba6f66bd8a3372b978eaea96f0954de5581a2ef", func := "loop.example/g00520/laws.FnExactIsFeasible", spec := "fnExactIsFeasible", unfollowed := true, recurses := true, apart := false, narrowed := true }
def FnExactIsFeasibleUptoSaid : Prop := fnExactIsFeasibleUptoRow.holds Try.pinned (OpenSpec.upto fnExactIsFeasibleSpec)

/-- 'laws.FnExactCheckLP', WHERE WHAT IT READS IS OF BULK AT MOST 1048576: true; the input reads as it did. -/
def fnExactCheckLPUptoRow : OpenClaim := { program := "ytfbhnjdbamahkaa", sum := "617ade0cca4272fbba722263cba6f66bd8a3372b978eaea96f0954de5581a2ef", func := "loop.example/g00520/laws.FnExactCheckLP", spec := "fnExactCheckLP", unfollowed := true, recurses := true, apart := false, narrowed := true }
def FnExactCheckLPUptoSaid : Prop := fnExactCheckLPUptoRow.holds Try.pinned (OpenSpec.upto fnExactCheckLPSpec)

/-- 'laws.FnExactStartTableau', WHERE WHAT IT READS IS OF BULK AT MOST 1048576: true; the input reads as it did. -/
def fnExactStartTableauUptoRow : OpenClaim := { program := "ytfbhnjdbamahkaa", sum := "617ade0cca4272fbba722263cba6f66bd8a3372b978eaea96f0954de5581a2ef", func := "loop.example/g00520/laws.FnExactStartTableau", spec := "fnExactStartTableau", unfollowed := true, recurses := true, apart := false, narrowed := true }
def FnExactStartTableauUptoSaid : Prop := fnExactStartTableauUptoRow.holds Try.pinned (OpenSpec.upto fnExactStartTableauSpec)

end Rows
end Go.Proofs.Ytfbhnjdbamahkaa
