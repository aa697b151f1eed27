/-
  No cell of these rows narrows 'for every input' (looked for: loops, veiled, ifaces, maps, wideKeys, modest, calm, conditions, laid).
  DERIVED. THE GIVEN ROWS OF THIS SEAT. 3 by the template 'for every input the law returns true; each argument reads behind the call as it read before'; 0 by the template 'total and deterministic' (their statements: YtmjmjilpcekngaaTotals.lean).
  GIVEN WITH THE SEED: the statements are not yours to turn. If you find one false, say at which input.
  Laid BY PROGRAM, IN A SANDBOX (cutbox-rows.mjs): the forced cells as the released guide's own fill.sh prints them over the translation 0688aec01b1ed6e9… (all of the seat's roots in one cut). By AI agents, Wed Nov 11 2026. No macro, syntax, notation, axiom, sorry.
-/
import Derived.Test.YtmjmjilpcekngaaChecked
import GoSem.Claim
import GoSem.ClaimJoined
import GoSem.ClaimMapViews
import Derived.JoinedTies
import Derived.KernelRfl
namespace Go.Proofs.Ytmjmjilpcekngaa
/- THE CELL 'sum', in the pinned program and in every row, IS THE sha256 OF THE DUMP (.gsa) THAT YtmjmjilpcekngaaProg.lean LOADS. Nothing in Lean hashes anything: it is a label: what it is worth is what the hold of that sum in a sandbox is worth. -/
noncomputable def Try.pinned : Pinned := { name := "ytmjmjilpcekngaa", sum := "0688aec01b1ed6e91f9652e28804a3cbaa4b896c49d8f8954c639fb9b0537d32", checked := Try.checked }
namespace Rows
def none {H : Type} : Left H := { results := [], args := [] }

/-- 'laws.FnWeakDuality': WHATEVER THE INPUT: true; the input reads as it did. -/
def fnWeakDualitySpec : ChangeSpec := { name := "fnWeakDuality", fn := fun _ => fun
  | [d] => { results := [.lit (.bool true)], args := [d] }
  | _ => none }
def fnWeakDualityRow : OpenClaim := { program := "ytmjmjilpcekngaa", sum := "0688aec01b1ed6e91f9652e28804a3cbaa4b896c49d8f8954c639fb9b0537d32", func := "loop.example/g00520/laws.FnWeakDuality", spec := "fnWeakDuality", unfollowed := true, recurses := true, apart := false }
def FnWeakDualitySaid : Prop := fnWeakDualityRow.holds Try.pinned (OpenSpec.ofChange fnWeakDualitySpec)

/-- ITS FALSE NEIGHBOUR: 'it returns false'. Refute it at one input. -/
def fnWeakDualityWrong : ChangeSpec := { name := "fnWeakDuality", fn := fun _ => fun
  | [d] => { results := [.lit (.bool false)], args := [d] }
  | _ => none }
def FnWeakDualityWrongFalsely : Prop := fnWeakDualityRow.holds Try.pinned (OpenSpec.ofChange fnWeakDualityWrong)

/-- 'laws.FnExactIsFeasible': WHATEVER THE INPUT: true; the input reads as it did. -/
def fnExactIsFeasibleSpec : ChangeSpec := { name := "fnExactIsFeasible", fn := fun _ => fun
  | [d1, d2] => { results := [.lit (.bool true)], args := [d1, d2] }
  | _ => none }
def fnExactIsFeasibleRow : OpenClaim := { program := "ytmjmjilpcekngaa", sum := "0688aec01b1ed6e91f9652e28804a3cbaa4b896c49d8f8954c639fb9b0537d32", func := "loop.example/g00520/laws.FnExactIsFeasible", spec := "fnExactIsFeasible", unfollowed := true, recurses := true, apart := false }
def FnExactIsFeasibleSaid : Prop := fnExactIsFeasibleRow.holds Try.pinned (OpenSpec.ofChange fnExactIsFeasibleSpec)

/-- ITS FALSE NEIGHBOUR: 'it returns false'. Refute it at one input. -/
def fnExactIsFeasibleWrong : ChangeSpec := { name := "fnExactIsFeasible", fn := fun _ => fun
  | [d1, d2] => { results := [.lit (.bool false)], args := [d1, d2] }
  | _ => none }
def FnExactIsFeasibleWrongFalsely : Prop := fnExactIsFeasibleRow.holds Try.pinned (OpenSpec.ofChange fnExactIsFeasibleWrong)

/-- 'laws.FnExactCheckLP': WHATEVER THE INPUT: true; the input reads as it did. -/
def fnExactCheckLPSpec : ChangeSpec := { name := "fnExactCheckLP", fn := fun _ => fun
  | [d1, d2] => { results := [.lit (.bool true)], args := [d1, d2] }
  | _ => none }
def fnExactCheckLPRow : OpenClaim := { program := "ytmjmjilpcekngaa", sum := "0688aec01b1ed6e91f9652e28804a3cbaa4b896c49d8f8954c639fb9b0537d32", func := "loop.example/g00520/laws.FnExactCheckLP", spec := "fnExactCheckLP", unfollowed := true, recurses := true, apart := false }
def FnExactCheckLPSaid : Prop := fnExactCheckLPRow.holds Try.pinned (OpenSpec.ofChange fnExactCheckLPSpec)

/-- ITS FALSE NEIGHBOUR: 'it returns false'. Refute it at one input. -/
def fnExactCheckLPWrong : ChangeSpec := { name := "fnExactCheckLP", fn := fun _ => fun
  | [d1, d2] => { results := [.lit (.bool false)], args := [d1, d2] }
  | _ => none }
def FnExactCheckLPWrongFalsely : Prop := fnExactCheckLPRow.holds Try.pinned (OpenSpec.ofChange fnExactCheckLPWrong)

/- THE SECOND FORM. 'bulk': how many values and letters a reading holds, each counted each time it is reached (what is shared counts as often as it is met; a slice's spare places count too). A statement '..UptoSaid' is the law's where the arguments, and the package variables that the reading takes, are together of bulk at most 1048576: NARROWER than '..Said'. Prove '..Said' where nothing that the law and all that it calls make is longer than what came in: it says more and counts as full. Else prove '..UptoSaid'. A law counts once. -/
mutual
def uptoBulk {H : Type} : DataW H → Nat
  | .lit (.string bytes) => bytes.length + 1
  | .lit _ => 1
  | .nil => 1
  | .ptr d => uptoBulk d + 1
  | .slice elems spare => uptoBulkAll elems + uptoBulkAll spare + 1
  | .agg parts => uptoBulkAll parts + 1
  | .iface _ d => uptoBulk d + 1
  | .map entries => uptoBulkEntries entries + 1
  | .held _ => 1
def uptoBulkAll {H : Type} : List (DataW H) → Nat
  | [] => 0
  | d :: r => uptoBulk d + uptoBulkAll r
def uptoBulkEntries {H : Type} : List (Lit × DataW H) → Nat
  | [] => 0
  | x :: r => uptoBulkEntry x + uptoBulkEntries r
def uptoBulkEntry {H : Type} : Lit × DataW H → Nat
  | (.string bytes, d) => bytes.length + uptoBulk d + 1
  | (_, d) => uptoBulk d + 1
 end
def uptoSmall : (H : Type) → List (DataW H) → Bool := fun _ ds => decide (uptoBulkAll ds ≤ 1048576)
def OpenSpec.upto (s : _root_.Go.ChangeSpec) : _root_.Go.OpenSpec := { _root_.Go.OpenSpec.ofChange s with cond := some uptoSmall }

/-- 'laws.FnWeakDuality', WHERE WHAT IT READS IS OF BULK AT MOST 1048576: true; the input reads as it did. -/
def fnWeakDualityUptoRow : OpenClaim := { program := "ytmjmjilpcekngaa", sum := "0688aec01b1ed6e91f9652e28804a3cbaa4b896c49d8f8954c639fb9b0537d32", func := "loop.example/g00520/laws.FnWeakDuality", spec := "fnWeakDuality", unfollowed := true, recurses := true, apart := false, narrowed := true }
def FnWeakDualityUptoSaid : Prop := fnWeakDualityUptoRow.holds Try.pinned (OpenSpec.upto fnWeakDualitySpec)

/-- 'laws.FnExactIsFeasible', WHERE WHAT IT READS IS OF BULK AT MOST 1048576: true; the input reads as it did. -/
def fnExactIsFeasibleUptoRow : OpenClaim := { program := "ytmjmjilpcekngaa", sum := "0688aec01b1ed6e91f9652e28804a3cbaa4b896c49d8f8954c639fb9b0537d32", func := "loop.example/g00520/laws.FnExactIsFeasible", spec := "fnExactIsFeasible", unfollowed := true, recurses := true, apart := false, narrowed := true }
def FnExactIsFeasibleUptoSaid : Prop := fnExactIsFeasibleUptoRow.holds Try.pinned (OpenSpec.upto fnExactIsFeasibleSpec)

/-- 'laws.FnExactCheckLP', WHERE WHAT IT READS IS OF BULK AT MOST 1048576: true; the input reads as it did. -/
def fnExactCheckLPUptoRow : OpenClaim := { program := "ytmjmjilpcekngaa", sum := "0688aec01b1ed6e91f9652e28804a3cbaa4b896c49d8f8954c639fb9b0537d32", func := "loop.example/g00520/laws.FnExactCheckLP", spec := "fnExactCheckLP", unfollowed := true, recurses := true, apart := false, narrowed := true }
def FnExactCheckLPUptoSaid : Prop := fnExactCheckLPUptoRow.holds Try.pinned (OpenSpec.upto fnExactCheckLPSpec)

end Rows
end Go.Proofs.Ytmjmjilpcekngaa
