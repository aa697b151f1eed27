/-
  No cell of these rows narrows 'for every input' (looked for: loops, veiled, ifaces, maps, wideKeys, modest, calm, conditions, laid).
  DERIVED. THE GIVEN ROWS OF THIS SEAT. 4 by the template 'for every input the law returns true; each argument reads behind the call as it read before'; 0 by the template 'total and deterministic' (their statements: YtkindblhafejfaaTotals.lean).
  GIVEN WITH THE SEED: the statements are not yours to turn. If you find one false, say at which input.
  Laid BY PROGRAM, IN A SANDBOX (cutbox-rows.mjs): the forced cells as the released guide's own fill.sh prints them over the translation c4bc9f5116e5097c… (all of the seat's roots in one cut). By AI agents, Wed Nov 11 2026. No macro, syntax, notation, axiom, sorry.
-/
import Derived.Test.YtkindblhafejfaaChecked
import GoSem.Claim
import GoSem.ClaimJoined
import GoSem.ClaimMapViews
import Derived.JoinedTies
import Derived.KernelRfl
namespace Go.Proofs.Ytkindblhafejfaa
/- THE CELL 'sum', in the pinned program and in every row, IS THE sha256 OF THE DUMP (.gsa) THAT YtkindblhafejfaaProg.lean LOADS. Nothing in Lean hashes anything: it is a label: what it is worth is what the hold of that sum in a sandbox is worth. -/
noncomputable def Try.pinned : Pinned := { name := "ytkindblhafejfaa", sum := "c4bc9f5116e5097c27243a165515f0bb4a0ebd6c640d3f0df00a1030c2fef4d7", checked := Try.checked }
namespace Rows
def none {H : Type} : Left H := { results := [], args := [] }

/-- 'laws.FnExactStartTableau': WHATEVER THE INPUT: true; the input reads as it did. -/
def fnExactStartTableauSpec : ChangeSpec := { name := "fnExactStartTableau", fn := fun _ => fun
  | [d] => { results := [.lit (.bool true)], args := [d] }
  | _ => none }
def fnExactStartTableauRow : OpenClaim := { program := "ytkindblhafejfaa", sum := "c4bc9f5116e5097c27243a165515f0bb4a0ebd6c640d3f0df00a1030c2fef4d7", func := "loop.example/g00520/laws.FnExactStartTableau", spec := "fnExactStartTableau", unfollowed := true, recurses := true, apart := false }
def FnExactStartTableauSaid : Prop := fnExactStartTableauRow.holds Try.pinned (OpenSpec.ofChange fnExactStartTableauSpec)

/-- ITS FALSE NEIGHBOUR: 'it returns false'. Refute it at one input. -/
def fnExactStartTableauWrong : ChangeSpec := { name := "fnExactStartTableau", fn := fun _ => fun
  | [d] => { results := [.lit (.bool false)], args := [d] }
  | _ => none }
def FnExactStartTableauWrongFalsely : Prop := fnExactStartTableauRow.holds Try.pinned (OpenSpec.ofChange fnExactStartTableauWrong)

/-- 'laws.FnExactPivotTableau': WHATEVER THE INPUT: true; the input reads as it did. -/
def fnExactPivotTableauSpec : ChangeSpec := { name := "fnExactPivotTableau", fn := fun _ => fun
  | [d1, d2, d3] => { results := [.lit (.bool true)], args := [d1, d2, d3] }
  | _ => none }
def fnExactPivotTableauRow : OpenClaim := { program := "ytkindblhafejfaa", sum := "c4bc9f5116e5097c27243a165515f0bb4a0ebd6c640d3f0df00a1030c2fef4d7", func := "loop.example/g00520/laws.FnExactPivotTableau", spec := "fnExactPivotTableau", unfollowed := true, recurses := true, apart := false }
def FnExactPivotTableauSaid : Prop := fnExactPivotTableauRow.holds Try.pinned (OpenSpec.ofChange fnExactPivotTableauSpec)

/-- ITS FALSE NEIGHBOUR: 'it returns false'. Refute it at one input. -/
def fnExactPivotTableauWrong : ChangeSpec := { name := "fnExactPivotTableau", fn := fun _ => fun
  | [d1, d2, d3] => { results := [.lit (.bool false)], args := [d1, d2, d3] }
  | _ => none }
def FnExactPivotTableauWrongFalsely : Prop := fnExactPivotTableauRow.holds Try.pinned (OpenSpec.ofChange fnExactPivotTableauWrong)

/-- 'laws.FnExactEnteringColumn': WHATEVER THE INPUT: true; the input reads as it did. -/
def fnExactEnteringColumnSpec : ChangeSpec := { name := "fnExactEnteringColumn", fn := fun _ => fun
  | [d1, d2, d3] => { results := [.lit (.bool true)], args := [d1, d2, d3] }
  | _ => none }
def fnExactEnteringColumnRow : OpenClaim := { program := "ytkindblhafejfaa", sum := "c4bc9f5116e5097c27243a165515f0bb4a0ebd6c640d3f0df00a1030c2fef4d7", func := "loop.example/g00520/laws.FnExactEnteringColumn", spec := "fnExactEnteringColumn", apart := false }
def FnExactEnteringColumnSaid : Prop := fnExactEnteringColumnRow.holds Try.pinned (OpenSpec.ofChange fnExactEnteringColumnSpec)

/-- ITS FALSE NEIGHBOUR: 'it returns false'. Refute it at one input. -/
def fnExactEnteringColumnWrong : ChangeSpec := { name := "fnExactEnteringColumn", fn := fun _ => fun
  | [d1, d2, d3] => { results := [.lit (.bool false)], args := [d1, d2, d3] }
  | _ => none }
def FnExactEnteringColumnWrongFalsely : Prop := fnExactEnteringColumnRow.holds Try.pinned (OpenSpec.ofChange fnExactEnteringColumnWrong)

/-- 'laws.FnExactLeavingRow': WHATEVER THE INPUT: true; the input reads as it did. -/
def fnExactLeavingRowSpec : ChangeSpec := { name := "fnExactLeavingRow", fn := fun _ => fun
  | [d1, d2] => { results := [.lit (.bool true)], args := [d1, d2] }
  | _ => none }
def fnExactLeavingRowRow : OpenClaim := { program := "ytkindblhafejfaa", sum := "c4bc9f5116e5097c27243a165515f0bb4a0ebd6c640d3f0df00a1030c2fef4d7", func := "loop.example/g00520/laws.FnExactLeavingRow", spec := "fnExactLeavingRow", apart := false }
def FnExactLeavingRowSaid : Prop := fnExactLeavingRowRow.holds Try.pinned (OpenSpec.ofChange fnExactLeavingRowSpec)

/-- ITS FALSE NEIGHBOUR: 'it returns false'. Refute it at one input. -/
def fnExactLeavingRowWrong : ChangeSpec := { name := "fnExactLeavingRow", fn := fun _ => fun
  | [d1, d2] => { results := [.lit (.bool false)], args := [d1, d2] }
  | _ => none }
def FnExactLeavingRowWrongFalsely : Prop := fnExactLeavingRowRow.holds Try.pinned (OpenSpec.ofChange fnExactLeavingRowWrong)

/- THE SECOND FORM. 'bulk': how many values and letters a reading holds, each counted each time it is reached (what is shared counts as often as it is met; a slice's spare places count too). A statement '..UptoSaid' is the law's where the arguments, and the package variables that the reading takes, are together of bulk at most 1048576: NARROWER than '..Said'. Prove '..Said' where nothing that the law and all that it calls make is longer than what came in: it says more and counts as full. Else prove '..UptoSaid'. A law counts once. -/
mutual
def uptoBulk {H : Type} : DataW H → Nat
  | .lit (.string bytes) => bytes.length + 1
  | .lit _ => 1
  | .nil => 1
  | .ptr d => uptoBulk d + 1
  | .slice elems spare => uptoBulkAll elems + uptoBulkAll spare + 1
  | .agg parts => uptoBulkAll parts + 1
  | .iface _ d => uptoBulk d + 1
  | .map entries => uptoBulkEntries entries + 1
  | .held _ => 1
def uptoBulkAll {H : Type} : List (DataW H) → Nat
  | [] => 0
  | d :: r => uptoBulk d + uptoBulkAll r
def uptoBulkEntries {H : Type} : List (Lit × DataW H) → Nat
  | [] => 0
  | x :: r => uptoBulkEntry x + uptoBulkEntries r
def uptoBulkEntry {H : Type} : Lit × DataW H → Nat
  | (.string bytes, d) => bytes.length + uptoBulk d + 1
  | (_, d) => uptoBulk d + 1
 end
def uptoSmall : (H : Type) → List (DataW H) → Bool := fun _ ds => decide (uptoBulkAll ds ≤ 1048576)
def OpenSpec.upto (s : _root_.Go.ChangeSpec) : _root_.Go.OpenSpec := { _root_.Go.OpenSpec.ofChange s with cond := some uptoSmall }

/-- 'laws.FnExactStartTableau', WHERE WHAT IT READS IS OF BULK AT MOST 1048576: true; the input reads as it did. -/
def fnExactStartTableauUptoRow : OpenClaim := { program := "ytkindblhafejfaa", sum := "c4bc9f5116e5097c27243a165515f0bb4a0ebd6c640d3f0df00a1030c2fef4d7", func := "loop.example/g00520/laws.FnExactStartTableau", spec := "fnExactStartTableau", unfollowed := true, recurses := true, apart := false, narrowed := true }
def FnExactStartTableauUptoSaid : Prop := fnExactStartTableauUptoRow.holds Try.pinned (OpenSpec.upto fnExactStartTableauSpec)

/-- 'laws.FnExactPivotTableau', WHERE WHAT IT READS IS OF BULK AT MOST 1048576: true; the input reads as it did. -/
def fnExactPivotTableauUptoRow : OpenClaim := { program := "ytkindblhafejfaa", sum := "c4bc9f5116e5097c27243a165515f0bb4a0ebd6c640d3f0df00a1030c2fef4d7", func := "loop.example/g00520/laws.FnExactPivotTableau", spec := "fnExactPivotTableau", unfollowed := true, recurses := true, apart := false, narrowed := true }
def FnExactPivotTableauUptoSaid : Prop := fnExactPivotTableauUptoRow.holds Try.pinned (OpenSpec.upto fnExactPivotTableauSpec)

/-- 'laws.FnExactEnteringColumn', WHERE WHAT IT READS IS OF BULK AT MOST 1048576: true; the input reads as it did. -/
def fnExactEnteringColumnUptoRow : OpenClaim := { program := "ytkindblhafejfaa", sum := "c4bc9f5116e5097c27243a165515f0bb4a0ebd6c640d3f0df00a1030c2fef4d7", func := "loop.example/g00520/laws.FnExactEnteringColumn", spec := "fnExactEnteringColumn", apart := false, narrowed := true }
def FnExactEnteringColumnUptoSaid : Prop := fnExactEnteringColumnUptoRow.holds Try.pinned (OpenSpec.upto fnExactEnteringColumnSpec)

/-- 'laws.FnExactLeavingRow', WHERE WHAT IT READS IS OF BULK AT MOST 1048576: true; the input reads as it did. -/
def fnExactLeavingRowUptoRow : OpenClaim := { program := "ytkindblhafejfaa", sum := "c4bc9f5116e5097c27243a165515f0bb4a0ebd6c640d3f0df00a1030c2fef4d7", func := "loop.example/g00520/laws.FnExactLeavingRow", spec := "fnExactLeavingRow", apart := false, narrowed := true }
def FnExactLeavingRowUptoSaid : Prop := fnExactLeavingRowUptoRow.holds Try.pinned (OpenSpec.upto fnExactLeavingRowSpec)

end Rows
end Go.Proofs.Ytkindblhafejfaa
