/-
  No cell of these rows narrows 'for every input' (looked for: loops, veiled, ifaces, maps, wideKeys, modest, calm, conditions, laid).
  DERIVED. THE GIVEN ROWS OF THIS SEAT. 4 by the template 'for every input the law returns true; each argument reads behind the call as it read before'; 0 by the template 'total and deterministic' (their statements: YtjkofijchdibdaaTotals.lean).
  GIVEN WITH THE SEED: the statements are not yours to turn. If you find one false, say at which input.
  Laid BY PROGRAM, IN A SANDBOX (cutbox-rows.mjs): the forced cells as the released guide's own fill.sh prints them over the translation 0cb21e374b77ec2b… (all of the seat's roots in one cut). By AI agents, Wed Nov 11 2026. No macro, syntax, notation, axiom, sorry.
-/
import Derived.Test.YtjkofijchdibdaaChecked
import GoSem.Claim
import GoSem.ClaimJoined
import GoSem.ClaimMapViews
import Derived.JoinedTies
import Derived.KernelRfl
namespace Go.Proofs.Ytjkofijchdibdaa
/- THE CELL 'sum', in the pinned program and in every row, IS THE sha256 OF THE DUMP (.gsa) THAT YtjkofijchdibdaaProg.lean LOADS. Nothing in Lean hashes anything: it is a label: what it is worth is what the hold of that sum in a sandbox is worth. -/
noncomputable def Try.pinned : Pinned := { name := "ytjkofijchdibdaa", sum := "0cb21e374b77ec2b5c2762bc6816c4a39368b74634e56830a971313e11d2e869", checked := Try.checked }
namespace Rows
def none {H : Type} : Left H := { results := [], args := [] }

/-- 'laws.FnExactBalancedLP': WHATEVER THE INPUT: true; the input reads as it did. -/
def fnExactBalancedLPSpec : ChangeSpec := { name := "fnExactBalancedLP", fn := fun _ => fun
  | [d] => { results := [.lit (.bool true)], args := [d] }
  | _ => none }
def fnExactBalancedLPRow : OpenClaim := { program := "ytjkofijchdibdaa", sum := "0cb21e374b77ec2b5c2762bc6816c4a39368b74634e56830a971313e11d2e869", func := "loop.example/g00520/laws.FnExactBalancedLP", spec := "fnExactBalancedLP", apart := false }
def FnExactBalancedLPSaid : Prop := fnExactBalancedLPRow.holds Try.pinned (OpenSpec.ofChange fnExactBalancedLPSpec)

/-- ITS FALSE NEIGHBOUR: 'it returns false'. Refute it at one input. -/
def fnExactBalancedLPWrong : ChangeSpec := { name := "fnExactBalancedLP", fn := fun _ => fun
  | [d] => { results := [.lit (.bool false)], args := [d] }
  | _ => none }
def FnExactBalancedLPWrongFalsely : Prop := fnExactBalancedLPRow.holds Try.pinned (OpenSpec.ofChange fnExactBalancedLPWrong)

/-- 'laws.FnExactIsBalancedCollection': WHATEVER THE INPUT: true; the input reads as it did. -/
def fnExactIsBalancedCollectionSpec : ChangeSpec := { name := "fnExactIsBalancedCollection", fn := fun _ => fun
  | [d1, d2] => { results := [.lit (.bool true)], args := [d1, d2] }
  | _ => none }
def fnExactIsBalancedCollectionRow : OpenClaim := { program := "ytjkofijchdibdaa", sum := "0cb21e374b77ec2b5c2762bc6816c4a39368b74634e56830a971313e11d2e869", func := "loop.example/g00520/laws.FnExactIsBalancedCollection", spec := "fnExactIsBalancedCollection", unfollowed := true, recurses := true, apart := false }
def FnExactIsBalancedCollectionSaid : Prop := fnExactIsBalancedCollectionRow.holds Try.pinned (OpenSpec.ofChange fnExactIsBalancedCollectionSpec)

/-- ITS FALSE NEIGHBOUR: 'it returns false'. Refute it at one input. -/
def fnExactIsBalancedCollectionWrong : ChangeSpec := { name := "fnExactIsBalancedCollection", fn := fun _ => fun
  | [d1, d2] => { results := [.lit (.bool false)], args := [d1, d2] }
  | _ => none }
def FnExactIsBalancedCollectionWrongFalsely : Prop := fnExactIsBalancedCollectionRow.holds Try.pinned (OpenSpec.ofChange fnExactIsBalancedCollectionWrong)

/-- 'laws.FnExactCheckCore': WHATEVER THE INPUT: true; the input reads as it did. -/
def fnExactCheckCoreSpec : ChangeSpec := { name := "fnExactCheckCore", fn := fun _ => fun
  | [d1, d2] => { results := [.lit (.bool true)], args := [d1, d2] }
  | _ => none }
def fnExactCheckCoreRow : OpenClaim := { program := "ytjkofijchdibdaa", sum := "0cb21e374b77ec2b5c2762bc6816c4a39368b74634e56830a971313e11d2e869", func := "loop.example/g00520/laws.FnExactCheckCore", spec := "fnExactCheckCore", unfollowed := true, recurses := true, apart := false }
def FnExactCheckCoreSaid : Prop := fnExactCheckCoreRow.holds Try.pinned (OpenSpec.ofChange fnExactCheckCoreSpec)

/-- ITS FALSE NEIGHBOUR: 'it returns false'. Refute it at one input. -/
def fnExactCheckCoreWrong : ChangeSpec := { name := "fnExactCheckCore", fn := fun _ => fun
  | [d1, d2] => { results := [.lit (.bool false)], args := [d1, d2] }
  | _ => none }
def FnExactCheckCoreWrongFalsely : Prop := fnExactCheckCoreRow.holds Try.pinned (OpenSpec.ofChange fnExactCheckCoreWrong)

/-- 'laws.FnExactCoreName': WHATEVER THE INPUT: true; the input reads as it did. -/
def fnExactCoreNameSpec : ChangeSpec := { name := "fnExactCoreName", fn := fun _ => fun
  | [d] => { results := [.lit (.bool true)], args := [d] }
  | _ => none }
def fnExactCoreNameRow : OpenClaim := { program := "ytjkofijchdibdaa", sum := "0cb21e374b77ec2b5c2762bc6816c4a39368b74634e56830a971313e11d2e869", func := "loop.example/g00520/laws.FnExactCoreName", spec := "fnExactCoreName", apart := false }
def FnExactCoreNameSaid : Prop := fnExactCoreNameRow.holds Try.pinned (OpenSpec.ofChange fnExactCoreNameSpec)

/-- ITS FALSE NEIGHBOUR: 'it returns false'. Refute it at one input. -/
def fnExactCoreNameWrong : ChangeSpec := { name := "fnExactCoreName", fn := fun _ => fun
  | [d] => { results := [.lit (.bool false)], args := [d] }
  | _ => none }
def FnExactCoreNameWrongFalsely : Prop := fnExactCoreNameRow.holds Try.pinned (OpenSpec.ofChange fnExactCoreNameWrong)

/- THE SECOND FORM. 'bulk': how many values and letters a reading holds, each counted each time it is reached (what is shared counts as often as it is met; a slice's spare places count too). A statement '..UptoSaid' is the law's where the arguments, and the package variables that the reading takes, are together of bulk at most 1048576: NARROWER than '..Said'. Prove '..Said' where nothing that the law and all that it calls make is longer than what came in: it says more and counts as full. Else prove '..UptoSaid'. A law counts once. -/
mutual
def uptoBulk {H : Type} : DataW H → Nat
  | .lit (.string bytes) => bytes.length + 1
  | .lit _ => 1
  | .nil => 1
  | .ptr d => uptoBulk d + 1
  | .slice elems spare => uptoBulkAll elems + uptoBulkAll spare + 1
  | .agg parts => uptoBulkAll parts + 1
  | .iface _ d => uptoBulk d + 1
  | .map entries => uptoBulkEntries entries + 1
  | .held _ => 1
def uptoBulkAll {H : Type} : List (DataW H) → Nat
  | [] => 0
  | d :: r => uptoBulk d + uptoBulkAll r
def uptoBulkEntries {H : Type} : List (Lit × DataW H) → Nat
  | [] => 0
  | x :: r => uptoBulkEntry x + uptoBulkEntries r
def uptoBulkEntry {H : Type} : Lit × DataW H → Nat
  | (.string bytes, d) => bytes.length + uptoBulk d + 1
  | (_, d) => uptoBulk d + 1
 end
def uptoSmall : (H : Type) → List (DataW H) → Bool := fun _ ds => decide (uptoBulkAll ds ≤ 1048576)
def OpenSpec.upto (s : _root_.Go.ChangeSpec) : _root_.Go.OpenSpec := { _root_.Go.OpenSpec.ofChange s with cond := some uptoSmall }

/-- 'laws.FnExactBalancedLP', WHERE WHAT IT READS IS OF BULK AT MOST 1048576: true; the input reads as it did. -/
def fnExactBalancedLPUptoRow : OpenClaim := { program := "ytjkofijchdibdaa", sum := "0cb21e374b77ec2b5c2762bc6816c4a39368b74634e56830a971313e11d2e869", func := "loop.example/g00520/laws.FnExactBalancedLP", spec := "fnExactBalancedLP", apart := false, narrowed := true }
def FnExactBalancedLPUptoSaid : Prop := fnExactBalancedLPUptoRow.holds Try.pinned (OpenSpec.upto fnExactBalancedLPSpec)

/-- 'laws.FnExactIsBalancedCollection', WHERE WHAT IT READS IS OF BULK AT MOST 1048576: true; the input reads as it did. -/
def fnExactIsBalancedCollectionUptoRow : OpenClaim := { program := "ytjkofijchdibdaa", sum := "0cb21e374b77ec2b5c2762bc6816c4a39368b74634e56830a971313e11d2e869", func := "loop.example/g00520/laws.FnExactIsBalancedCollection", spec := "fnExactIsBalancedCollection", unfollowed := true, recurses := true, apart := false, narrowed := true }
def FnExactIsBalancedCollectionUptoSaid : Prop := fnExactIsBalancedCollectionUptoRow.holds Try.pinned (OpenSpec.upto fnExactIsBalancedCollectionSpec)

/-- 'laws.FnExactCheckCore', WHERE WHAT IT READS IS OF BULK AT MOST 1048576: true; the input reads as it did. -/
def fnExactCheckCoreUptoRow : OpenClaim := { program := "ytjkofijchdibdaa", sum := "0cb21e374b77ec2b5c2762bc6816c4a39368b74634e56830a971313e11d2e869", func := "loop.example/g00520/laws.FnExactCheckCore", spec := "fnExactCheckCore", unfollowed := true, recurses := true, apart := false, narrowed := true }
def FnExactCheckCoreUptoSaid : Prop := fnExactCheckCoreUptoRow.holds Try.pinned (OpenSpec.upto fnExactCheckCoreSpec)

/-- 'laws.FnExactCoreName', WHERE WHAT IT READS IS OF BULK AT MOST 1048576: true; the input reads as it did. -/
def fnExactCoreNameUptoRow : OpenClaim := { program := "ytjkofijchdibdaa", sum := "0cb21e374b77ec2b5c2762bc6816c4a39368b74634e56830a971313e11d2e869", func := "loop.example/g00520/laws.FnExactCoreName", spec := "fnExactCoreName", apart := false, narrowed := true }
def FnExactCoreNameUptoSaid : Prop := fnExactCoreNameUptoRow.holds Try.pinned (OpenSpec.upto fnExactCoreNameSpec)

end Rows
end Go.Proofs.Ytjkofijchdibdaa
