/-
  No cell of these rows narrows 'for every input' (looked for: loops, veiled, ifaces, maps, wideKeys, modest, calm, conditions, laid).
  DERIVED. THE GIVEN ROWS OF THIS SEAT. 7 by the template 'for every input the law returns true; each argument reads behind the call as it read before'; 0 by the template 'total and deterministic' (their statements: YteclfmefddlgbaaTotals.lean).
  GIVEN WITH THE SEED: the statements are not yours to turn. If you find one false, say at which input.
  Laid BY PROGRAM, IN A SANDBOX (cutbox-rows.mjs): the forced cells as the released guide's own fill.sh prints them over the translation 4cc29ff7f421a2c4… (all of the seat's roots in one cut). By AI agents, Wed Nov 11 2026. No macro, syntax, notation, axiom, sorry.
-/
import Derived.Test.YteclfmefddlgbaaChecked
import GoSem.Claim
import GoSem.ClaimJoined
import GoSem.ClaimMapViews
import Derived.JoinedTies
import Derived.KernelRfl
namespace Go.Proofs.Yteclfmefddlgbaa
/- THE CELL 'sum', in the pinned program and in every row, IS THE sha256 OF THE DUMP (.gsa) THAT YteclfmefddlgbaaProg.lean LOADS. Nothing in Lean hashes anything: it is a label: what it is worth is what the hold of that sum in a sandbox is worth. -/
noncomputable def Try.pinned : Pinned := { name := "yteclfmefddlgbaa", sum := "4cc29ff7f421a2c497e81a261fc1acbff25835cc0e09e2218ecb2b56eb205653", checked := Try.checked }
namespace Rows
def none {H : Type} : Left H := { results := [], args := [] }

/-- 'laws.FnLP': WHATEVER THE INPUT: true; the input reads as it did. -/
def fnLPSpec : ChangeSpec := { name := "fnLP", fn := fun _ => fun
  | [d] => { results := [.lit (.bool true)], args := [d] }
  | _ => none }
def fnLPRow : OpenClaim := { program := "yteclfmefddlgbaa", sum := "4cc29ff7f421a2c497e81a261fc1acbff25835cc0e09e2218ecb2b56eb205653", func := "loop.example/g00520/laws.FnLP", spec := "fnLP", unfollowed := true, recurses := true, apart := false }
def FnLPSaid : Prop := fnLPRow.holds Try.pinned (OpenSpec.ofChange fnLPSpec)

/-- ITS FALSE NEIGHBOUR: 'it returns false'. Refute it at one input. -/
def fnLPWrong : ChangeSpec := { name := "fnLP", fn := fun _ => fun
  | [d] => { results := [.lit (.bool false)], args := [d] }
  | _ => none }
def FnLPWrongFalsely : Prop := fnLPRow.holds Try.pinned (OpenSpec.ofChange fnLPWrong)

/-- 'laws.FnWeakDuality': WHATEVER THE INPUT: true; the input reads as it did. -/
def fnWeakDualitySpec : ChangeSpec := { name := "fnWeakDuality", fn := fun _ => fun
  | [d] => { results := [.lit (.bool true)], args := [d] }
  | _ => none }
def fnWeakDualityRow : OpenClaim := { program := "yteclfmefddlgbaa", sum := "4cc29ff7f421a2c497e81a261fc1acbff25835cc0e09e2218ecb2b56eb205653", func := "loop.example/g00520/laws.FnWeakDuality", spec := "fnWeakDuality", unfollowed := true, recurses := true, apart := false }
def FnWeakDualitySaid : Prop := fnWeakDualityRow.holds Try.pinned (OpenSpec.ofChange fnWeakDualitySpec)

/-- ITS FALSE NEIGHBOUR: 'it returns false'. Refute it at one input. -/
def fnWeakDualityWrong : ChangeSpec := { name := "fnWeakDuality", fn := fun _ => fun
  | [d] => { results := [.lit (.bool false)], args := [d] }
  | _ => none }
def FnWeakDualityWrongFalsely : Prop := fnWeakDualityRow.holds Try.pinned (OpenSpec.ofChange fnWeakDualityWrong)

/-- 'laws.FnExactIsValidLP': WHATEVER THE INPUT: true; the input reads as it did. -/
def fnExactIsValidLPSpec : ChangeSpec := { name := "fnExactIsValidLP", fn := fun _ => fun
  | [d] => { results := [.lit (.bool true)], args := [d] }
  | _ => none }
def fnExactIsValidLPRow : OpenClaim := { program := "yteclfmefddlgbaa", sum := "4cc29ff7f421a2c497e81a261fc1acbff25835cc0e09e2218ecb2b56eb205653", func := "loop.example/g00520/laws.FnExactIsValidLP", spec := "fnExactIsValidLP", apart := false }
def FnExactIsValidLPSaid : Prop := fnExactIsValidLPRow.holds Try.pinned (OpenSpec.ofChange fnExactIsValidLPSpec)

/-- ITS FALSE NEIGHBOUR: 'it returns false'. Refute it at one input. -/
def fnExactIsValidLPWrong : ChangeSpec := { name := "fnExactIsValidLP", fn := fun _ => fun
  | [d] => { results := [.lit (.bool false)], args := [d] }
  | _ => none }
def FnExactIsValidLPWrongFalsely : Prop := fnExactIsValidLPRow.holds Try.pinned (OpenSpec.ofChange fnExactIsValidLPWrong)

/-- 'laws.FnExactColumnOf': WHATEVER THE INPUT: true; the input reads as it did. -/
def fnExactColumnOfSpec : ChangeSpec := { name := "fnExactColumnOf", fn := fun _ => fun
  | [d1, d2] => { results := [.lit (.bool true)], args := [d1, d2] }
  | _ => none }
def fnExactColumnOfRow : OpenClaim := { program := "yteclfmefddlgbaa", sum := "4cc29ff7f421a2c497e81a261fc1acbff25835cc0e09e2218ecb2b56eb205653", func := "loop.example/g00520/laws.FnExactColumnOf", spec := "fnExactColumnOf", apart := false }
def FnExactColumnOfSaid : Prop := fnExactColumnOfRow.holds Try.pinned (OpenSpec.ofChange fnExactColumnOfSpec)

/-- ITS FALSE NEIGHBOUR: 'it returns false'. Refute it at one input. -/
def fnExactColumnOfWrong : ChangeSpec := { name := "fnExactColumnOf", fn := fun _ => fun
  | [d1, d2] => { results := [.lit (.bool false)], args := [d1, d2] }
  | _ => none }
def FnExactColumnOfWrongFalsely : Prop := fnExactColumnOfRow.holds Try.pinned (OpenSpec.ofChange fnExactColumnOfWrong)

/-- 'laws.FnExactIsFeasible': WHATEVER THE INPUT: true; the input reads as it did. -/
def fnExactIsFeasibleSpec : ChangeSpec := { name := "fnExactIsFeasible", fn := fun _ => fun
  | [d1, d2] => { results := [.lit (.bool true)], args := [d1, d2] }
  | _ => none }
def fnExactIsFeasibleRow : OpenClaim := { program := "yteclfmefddlgbaa", sum := "4cc29ff7f421a2c497e81a261fc1acbff25835cc0e09e2218ecb2b56eb205653", func := "loop.example/g00520/laws.FnExactIsFeasible", spec := "fnExactIsFeasible", unfollowed := true, recurses := true, apart := false }
def FnExactIsFeasibleSaid : Prop := fnExactIsFeasibleRow.holds Try.pinned (OpenSpec.ofChange fnExactIsFeasibleSpec)

/-- ITS FALSE NEIGHBOUR: 'it returns false'. Refute it at one input. -/
def fnExactIsFeasibleWrong : ChangeSpec := { name := "fnExactIsFeasible", fn := fun _ => fun
  | [d1, d2] => { results := [.lit (.bool false)], args := [d1, d2] }
  | _ => none }
def FnExactIsFeasibleWrongFalsely : Prop := fnExactIsFeasibleRow.holds Try.pinned (OpenSpec.ofChange fnExactIsFeasibleWrong)

/-- 'laws.FnExactCheckLP': WHATEVER THE INPUT: true; the input reads as it did. -/
def fnExactCheckLPSpec : ChangeSpec := { name := "fnExactCheckLP", fn := fun _ => fun
  | [d1, d2] => { results := [.lit (.bool true)], args := [d1, d2] }
  | _ => none }
def fnExactCheckLPRow : OpenClaim := { program := "yteclfmefddlgbaa", sum := "4cc29ff7f421a2c497e81a261fc1acbff25835cc0e09e2218ecb2b56eb205653", func := "loop.example/g00520/laws.FnExactCheckLP", spec := "fnExactCheckLP", unfollowed := true, recurses := true, apart := false }
def FnExactCheckLPSaid : Prop := fnExactCheckLPRow.holds Try.pinned (OpenSpec.ofChange fnExactCheckLPSpec)

/-- ITS FALSE NEIGHBOUR: 'it returns false'. Refute it at one input. -/
def fnExactCheckLPWrong : ChangeSpec := { name := "fnExactCheckLP", fn := fun _ => fun
  | [d1, d2] => { results := [.lit (.bool false)], args := [d1, d2] }
  | _ => none }
def FnExactCheckLPWrongFalsely : Prop := fnExactCheckLPRow.holds Try.pinned (OpenSpec.ofChange fnExactCheckLPWrong)

/-- 'laws.FnExactEqualResult': WHATEVER THE INPUT: true; the input reads as it did. -/
def fnExactEqualResultSpec : ChangeSpec := { name := "fnExactEqualResult", fn := fun _ => fun
  | [d1, d2] => { results := [.lit (.bool true)], args := [d1, d2] }
  | _ => none }
def fnExactEqualResultRow : OpenClaim := { program := "yteclfmefddlgbaa", sum := "4cc29ff7f421a2c497e81a261fc1acbff25835cc0e09e2218ecb2b56eb205653", func := "loop.example/g00520/laws.FnExactEqualResult", spec := "fnExactEqualResult", apart := false }
def FnExactEqualResultSaid : Prop := fnExactEqualResultRow.holds Try.pinned (OpenSpec.ofChange fnExactEqualResultSpec)

/-- ITS FALSE NEIGHBOUR: 'it returns false'. Refute it at one input. -/
def fnExactEqualResultWrong : ChangeSpec := { name := "fnExactEqualResult", fn := fun _ => fun
  | [d1, d2] => { results := [.lit (.bool false)], args := [d1, d2] }
  | _ => none }
def FnExactEqualResultWrongFalsely : Prop := fnExactEqualResultRow.holds Try.pinned (OpenSpec.ofChange fnExactEqualResultWrong)

/- THE SECOND FORM. 'bulk': how many values and letters a reading holds, each counted each time it is reached (what is shared counts as often as it is met; a slice's spare places count too). A statement '..UptoSaid' is the law's where the arguments, and the package variables that the reading takes, are together of bulk at most 1048576: NARROWER than '..Said'. Prove '..Said' where nothing that the law and all that it calls make is longer than what came in: it says more and counts as full. Else prove '..UptoSaid'. A law counts once. -/
mutual
def uptoBulk {H : Type} : DataW H → Nat
  | .lit (.string bytes) => bytes.length + 1
  | .lit _ => 1
  | .nil => 1
  | .ptr d => uptoBulk d + 1
  | .slice elems spare => uptoBulkAll elems + uptoBulkAll spare + 1
  | .agg parts => uptoBulkAll parts + 1
  | .iface _ d => uptoBulk d + 1
  | .map entries => uptoBulkEntries entries + 1
  | .held _ => 1
def uptoBulkAll {H : Type} : List (DataW H) → Nat
  | [] => 0
  | d :: r => uptoBulk d + uptoBulkAll r
def uptoBulkEntries {H : Type} : List (Lit × DataW H) → Nat
  | [] => 0
  | x :: r => uptoBulkEntry x + uptoBulkEntries r
def uptoBulkEntry {H : Type} : Lit × DataW H → Nat
  | (.string bytes, d) => bytes.length + uptoBulk d + 1
  | (_, d) => uptoBulk d + 1
 end
def uptoSmall : (H : Type) → List (DataW H) → Bool := fun _ ds => decide (uptoBulkAll ds ≤ 1048576)
def OpenSpec.upto (s : _root_.Go.ChangeSpec) : _root_.Go.OpenSpec := { _root_.Go.OpenSpec.ofChange s with cond := some uptoSmall }

/-- 'laws.FnLP', WHERE WHAT IT READS IS OF BULK AT MOST 1048576: true; the input reads as it did. -/
def fnLPUptoRow : OpenClaim := { program := "yteclfmefddlgbaa", sum := "4cc29ff7f421a2c497e81a261fc1acbff25835cc0e09e2218ecb2b56eb205653", func := "loop.example/g00520/laws.FnLP", spec := "fnLP", unfollowed := true, recurses := true, apart := false, narrowed := true }
def FnLPUptoSaid : Prop := fnLPUptoRow.holds Try.pinned (OpenSpec.upto fnLPSpec)

/-- 'laws.FnWeakDuality', WHERE WHAT IT READS IS OF BULK AT MOST 1048576: true; the input reads as it did. -/
def fnWeakDualityUptoRow : OpenClaim := { program := "yteclfmefddlgbaa", sum := "4cc29ff7f421a2c497e81a261fc1acbff25835cc0e09e2218ecb2b56eb205653", func := "loop.example/g00520/laws.FnWeakDuality", spec := "fnWeakDuality", unfollowed := true, recurses := true, apart := false, narrowed := true }
def FnWeakDualityUptoSaid : Prop := fnWeakDualityUptoRow.holds Try.pinned (OpenSpec.upto fnWeakDualitySpec)

/-- 'laws.FnExactIsValidLP', WHERE WHAT IT READS IS OF BULK AT MOST 1048576: true; the input reads as it did. -/
def fnExactIsValidLPUptoRow : OpenClaim := { program := "yteclfmefddlgbaa", sum := "4cc29ff7f421a2c497e81a261fc1acbff25835cc0e09e2218ecb2b56eb205653", func := "loop.example/g00520/laws.FnExactIsValidLP", spec := "fnExactIsValidLP", apart := false, narrowed := true }
def FnExactIsValidLPUptoSaid : Prop := fnExactIsValidLPUptoRow.holds Try.pinned (OpenSpec.upto fnExactIsValidLPSpec)

/-- 'laws.FnExactColumnOf', WHERE WHAT IT READS IS OF BULK AT MOST 1048576: true; the input reads as it did. -/
def fnExactColumnOfUptoRow : OpenClaim := { program := "yteclfmefddlgbaa", sum := "4cc29ff7f421a2c497e81a261fc1acbff25835cc0e09e2218ecb2b56eb205653", func := "loop.example/g00520/laws.FnExactColumnOf", spec := "fnExactColumnOf", apart := false, narrowed := true }
def FnExactColumnOfUptoSaid : Prop := fnExactColumnOfUptoRow.holds Try.pinned (OpenSpec.upto fnExactColumnOfSpec)

/-- 'laws.FnExactIsFeasible', WHERE WHAT IT READS IS OF BULK AT MOST 1048576: true; the input reads as it did. -/
def fnExactIsFeasibleUptoRow : OpenClaim := { program := "yteclfmefddlgbaa", sum := "4cc29ff7f421a2c497e81a261fc1acbff25835cc0e09e2218ecb2b56eb205653", func := "loop.example/g00520/laws.FnExactIsFeasible", spec := "fnExactIsFeasible", unfollowed := true, recurses := true, apart := false, narrowed := true }
def FnExactIsFeasibleUptoSaid : Prop := fnExactIsFeasibleUptoRow.holds Try.pinned (OpenSpec.upto fnExactIsFeasibleSpec)

/-- 'laws.FnExactCheckLP', WHERE WHAT IT READS IS OF BULK AT MOST 1048576: true; the input reads as it did. -/
def fnExactCheckLPUptoRow : OpenClaim := { program := "yteclfmefddlgbaa", sum := "4cc29ff7f421a2c497e81a261fc1acbff25835cc0e09e2218ecb2b56eb205653", func := "loop.example/g00520/laws.FnExactCheckLP", spec := "fnExactCheckLP", unfollowed := true, recurses := true, apart := false, narrowed := true }
def FnExactCheckLPUptoSaid : Prop := fnExactCheckLPUptoRow.holds Try.pinned (OpenSpec.upto fnExactCheckLPSpec)

/-- 'laws.FnExactEqualResult', WHERE WHAT IT READS IS OF BULK AT MOST 1048576: true; the input reads as it did. -/
def fnExactEqualResultUptoRow : OpenClaim := { program := "yteclfmefddlgbaa", sum := "4cc29ff7f421a2c497e81a261fc1acbff25835cc0e09e2218ecb2b56eb205653", func := "loop.example/g00520/laws.FnExactEqualResult", spec := "fnExactEqualResult", apart := false, narrowed := true }
def FnExactEqualResultUptoSaid : Prop := fnExactEqualResultUptoRow.holds Try.pinned (OpenSpec.upto fnExactEqualResultSpec)

end Rows
end Go.Proofs.Yteclfmefddlgbaa
