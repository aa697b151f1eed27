/-
  No cell of these rows narrows 'for every input' (looked for: loops, veiled, ifaces, maps, wideKeys, modest, calm, conditions, laid).
  DERIVED. THE GIVEN ROWS OF THIS SEAT. 9 by the template 'for every input the law returns true; each argument reads behind the call as it read before'; 0 by the template 'total and deterministic' (their statements: YtodjapljoimkgaaTotals.lean).
  GIVEN WITH THE SEED: the statements are not yours to turn. If you find one false, say at which input.
  Laid BY PROGRAM, IN A SANDBOX (cutbox-rows.mjs): the forced cells as the released guide's own fill.sh prints them over the translation a383e09c30b275b0… (all of the seat's roots in one cut). By AI agents, Wed Nov 11 2026. No macro, syntax, notation, axiom, sorry.
-/
import Derived.Test.YtodjapljoimkgaaChecked
import GoSem.Claim
import GoSem.ClaimJoined
import GoSem.ClaimMapViews
import Derived.JoinedTies
import Derived.KernelRfl
namespace Go.Proofs.Ytodjapljoimkgaa
/- THE CELL 'sum', in the pinned program and in every row, IS THE sha256 OF THE DUMP (.gsa) THAT YtodjapljoimkgaaProg.lean LOADS. Nothing in Lean hashes anything: it is a label: what it is worth is what the hold of that sum in a sandbox is worth. -/
noncomputable def Try.pinned : Pinned := { name := "ytodjapljoimkgaa", sum := "a383e09c30b275b07a8d0e0634a9671ed528c8059e6bdceeef936ef2a9c1b458", checked := Try.checked }
namespace Rows
def none {H : Type} : Left H := { results := [], args := [] }

/-- 'laws.FnProperties': WHATEVER THE INPUT: true; the input reads as it did. -/
def fnPropertiesSpec : ChangeSpec := { name := "fnProperties", fn := fun _ => fun
  | [d] => { results := [.lit (.bool true)], args := [d] }
  | _ => none }
def fnPropertiesRow : OpenClaim := { program := "ytodjapljoimkgaa", sum := "a383e09c30b275b07a8d0e0634a9671ed528c8059e6bdceeef936ef2a9c1b458", func := "loop.example/g00520/laws.FnProperties", spec := "fnProperties", unfollowed := true, recurses := true, apart := false }
def FnPropertiesSaid : Prop := fnPropertiesRow.holds Try.pinned (OpenSpec.ofChange fnPropertiesSpec)

/-- ITS FALSE NEIGHBOUR: 'it returns false'. Refute it at one input. -/
def fnPropertiesWrong : ChangeSpec := { name := "fnProperties", fn := fun _ => fun
  | [d] => { results := [.lit (.bool false)], args := [d] }
  | _ => none }
def FnPropertiesWrongFalsely : Prop := fnPropertiesRow.holds Try.pinned (OpenSpec.ofChange fnPropertiesWrong)

/-- 'laws.FnExactMonotoneFault': WHATEVER THE INPUT: true; the input reads as it did. -/
def fnExactMonotoneFaultSpec : ChangeSpec := { name := "fnExactMonotoneFault", fn := fun _ => fun
  | [d] => { results := [.lit (.bool true)], args := [d] }
  | _ => none }
def fnExactMonotoneFaultRow : OpenClaim := { program := "ytodjapljoimkgaa", sum := "a383e09c30b275b07a8d0e0634a9671ed528c8059e6bdceeef936ef2a9c1b458", func := "loop.example/g00520/laws.FnExactMonotoneFault", spec := "fnExactMonotoneFault", unfollowed := true, recurses := true, apart := false }
def FnExactMonotoneFaultSaid : Prop := fnExactMonotoneFaultRow.holds Try.pinned (OpenSpec.ofChange fnExactMonotoneFaultSpec)

/-- ITS FALSE NEIGHBOUR: 'it returns false'. Refute it at one input. -/
def fnExactMonotoneFaultWrong : ChangeSpec := { name := "fnExactMonotoneFault", fn := fun _ => fun
  | [d] => { results := [.lit (.bool false)], args := [d] }
  | _ => none }
def FnExactMonotoneFaultWrongFalsely : Prop := fnExactMonotoneFaultRow.holds Try.pinned (OpenSpec.ofChange fnExactMonotoneFaultWrong)

/-- 'laws.FnExactSuperadditiveFault': WHATEVER THE INPUT: true; the input reads as it did. -/
def fnExactSuperadditiveFaultSpec : ChangeSpec := { name := "fnExactSuperadditiveFault", fn := fun _ => fun
  | [d] => { results := [.lit (.bool true)], args := [d] }
  | _ => none }
def fnExactSuperadditiveFaultRow : OpenClaim := { program := "ytodjapljoimkgaa", sum := "a383e09c30b275b07a8d0e0634a9671ed528c8059e6bdceeef936ef2a9c1b458", func := "loop.example/g00520/laws.FnExactSuperadditiveFault", spec := "fnExactSuperadditiveFault", unfollowed := true, recurses := true, apart := false }
def FnExactSuperadditiveFaultSaid : Prop := fnExactSuperadditiveFaultRow.holds Try.pinned (OpenSpec.ofChange fnExactSuperadditiveFaultSpec)

/-- ITS FALSE NEIGHBOUR: 'it returns false'. Refute it at one input. -/
def fnExactSuperadditiveFaultWrong : ChangeSpec := { name := "fnExactSuperadditiveFault", fn := fun _ => fun
  | [d] => { results := [.lit (.bool false)], args := [d] }
  | _ => none }
def FnExactSuperadditiveFaultWrongFalsely : Prop := fnExactSuperadditiveFaultRow.holds Try.pinned (OpenSpec.ofChange fnExactSuperadditiveFaultWrong)

/-- 'laws.FnExactConvexFault': WHATEVER THE INPUT: true; the input reads as it did. -/
def fnExactConvexFaultSpec : ChangeSpec := { name := "fnExactConvexFault", fn := fun _ => fun
  | [d] => { results := [.lit (.bool true)], args := [d] }
  | _ => none }
def fnExactConvexFaultRow : OpenClaim := { program := "ytodjapljoimkgaa", sum := "a383e09c30b275b07a8d0e0634a9671ed528c8059e6bdceeef936ef2a9c1b458", func := "loop.example/g00520/laws.FnExactConvexFault", spec := "fnExactConvexFault", unfollowed := true, recurses := true, apart := false }
def FnExactConvexFaultSaid : Prop := fnExactConvexFaultRow.holds Try.pinned (OpenSpec.ofChange fnExactConvexFaultSpec)

/-- ITS FALSE NEIGHBOUR: 'it returns false'. Refute it at one input. -/
def fnExactConvexFaultWrong : ChangeSpec := { name := "fnExactConvexFault", fn := fun _ => fun
  | [d] => { results := [.lit (.bool false)], args := [d] }
  | _ => none }
def FnExactConvexFaultWrongFalsely : Prop := fnExactConvexFaultRow.holds Try.pinned (OpenSpec.ofChange fnExactConvexFaultWrong)

/-- 'laws.FnExactIsMonotone': WHATEVER THE INPUT: true; the input reads as it did. -/
def fnExactIsMonotoneSpec : ChangeSpec := { name := "fnExactIsMonotone", fn := fun _ => fun
  | [d] => { results := [.lit (.bool true)], args := [d] }
  | _ => none }
def fnExactIsMonotoneRow : OpenClaim := { program := "ytodjapljoimkgaa", sum := "a383e09c30b275b07a8d0e0634a9671ed528c8059e6bdceeef936ef2a9c1b458", func := "loop.example/g00520/laws.FnExactIsMonotone", spec := "fnExactIsMonotone", unfollowed := true, recurses := true, apart := false }
def FnExactIsMonotoneSaid : Prop := fnExactIsMonotoneRow.holds Try.pinned (OpenSpec.ofChange fnExactIsMonotoneSpec)

/-- ITS FALSE NEIGHBOUR: 'it returns false'. Refute it at one input. -/
def fnExactIsMonotoneWrong : ChangeSpec := { name := "fnExactIsMonotone", fn := fun _ => fun
  | [d] => { results := [.lit (.bool false)], args := [d] }
  | _ => none }
def FnExactIsMonotoneWrongFalsely : Prop := fnExactIsMonotoneRow.holds Try.pinned (OpenSpec.ofChange fnExactIsMonotoneWrong)

/-- 'laws.FnExactIsSuperadditive': WHATEVER THE INPUT: true; the input reads as it did. -/
def fnExactIsSuperadditiveSpec : ChangeSpec := { name := "fnExactIsSuperadditive", fn := fun _ => fun
  | [d] => { results := [.lit (.bool true)], args := [d] }
  | _ => none }
def fnExactIsSuperadditiveRow : OpenClaim := { program := "ytodjapljoimkgaa", sum := "a383e09c30b275b07a8d0e0634a9671ed528c8059e6bdceeef936ef2a9c1b458", func := "loop.example/g00520/laws.FnExactIsSuperadditive", spec := "fnExactIsSuperadditive", unfollowed := true, recurses := true, apart := false }
def FnExactIsSuperadditiveSaid : Prop := fnExactIsSuperadditiveRow.holds Try.pinned (OpenSpec.ofChange fnExactIsSuperadditiveSpec)

/-- ITS FALSE NEIGHBOUR: 'it returns false'. Refute it at one input. -/
def fnExactIsSuperadditiveWrong : ChangeSpec := { name := "fnExactIsSuperadditive", fn := fun _ => fun
  | [d] => { results := [.lit (.bool false)], args := [d] }
  | _ => none }
def FnExactIsSuperadditiveWrongFalsely : Prop := fnExactIsSuperadditiveRow.holds Try.pinned (OpenSpec.ofChange fnExactIsSuperadditiveWrong)

/-- 'laws.FnExactIsConvex': WHATEVER THE INPUT: true; the input reads as it did. -/
def fnExactIsConvexSpec : ChangeSpec := { name := "fnExactIsConvex", fn := fun _ => fun
  | [d] => { results := [.lit (.bool true)], args := [d] }
  | _ => none }
def fnExactIsConvexRow : OpenClaim := { program := "ytodjapljoimkgaa", sum := "a383e09c30b275b07a8d0e0634a9671ed528c8059e6bdceeef936ef2a9c1b458", func := "loop.example/g00520/laws.FnExactIsConvex", spec := "fnExactIsConvex", unfollowed := true, recurses := true, apart := false }
def FnExactIsConvexSaid : Prop := fnExactIsConvexRow.holds Try.pinned (OpenSpec.ofChange fnExactIsConvexSpec)

/-- ITS FALSE NEIGHBOUR: 'it returns false'. Refute it at one input. -/
def fnExactIsConvexWrong : ChangeSpec := { name := "fnExactIsConvex", fn := fun _ => fun
  | [d] => { results := [.lit (.bool false)], args := [d] }
  | _ => none }
def FnExactIsConvexWrongFalsely : Prop := fnExactIsConvexRow.holds Try.pinned (OpenSpec.ofChange fnExactIsConvexWrong)

/-- 'laws.FnExactNullPlayers': WHATEVER THE INPUT: true; the input reads as it did. -/
def fnExactNullPlayersSpec : ChangeSpec := { name := "fnExactNullPlayers", fn := fun _ => fun
  | [d] => { results := [.lit (.bool true)], args := [d] }
  | _ => none }
def fnExactNullPlayersRow : OpenClaim := { program := "ytodjapljoimkgaa", sum := "a383e09c30b275b07a8d0e0634a9671ed528c8059e6bdceeef936ef2a9c1b458", func := "loop.example/g00520/laws.FnExactNullPlayers", spec := "fnExactNullPlayers", apart := false }
def FnExactNullPlayersSaid : Prop := fnExactNullPlayersRow.holds Try.pinned (OpenSpec.ofChange fnExactNullPlayersSpec)

/-- ITS FALSE NEIGHBOUR: 'it returns false'. Refute it at one input. -/
def fnExactNullPlayersWrong : ChangeSpec := { name := "fnExactNullPlayers", fn := fun _ => fun
  | [d] => { results := [.lit (.bool false)], args := [d] }
  | _ => none }
def FnExactNullPlayersWrongFalsely : Prop := fnExactNullPlayersRow.holds Try.pinned (OpenSpec.ofChange fnExactNullPlayersWrong)

/-- 'laws.FnExactAreSymmetric': WHATEVER THE INPUT: true; the input reads as it did. -/
def fnExactAreSymmetricSpec : ChangeSpec := { name := "fnExactAreSymmetric", fn := fun _ => fun
  | [d1, d2, d3] => { results := [.lit (.bool true)], args := [d1, d2, d3] }
  | _ => none }
def fnExactAreSymmetricRow : OpenClaim := { program := "ytodjapljoimkgaa", sum := "a383e09c30b275b07a8d0e0634a9671ed528c8059e6bdceeef936ef2a9c1b458", func := "loop.example/g00520/laws.FnExactAreSymmetric", spec := "fnExactAreSymmetric", apart := false }
def FnExactAreSymmetricSaid : Prop := fnExactAreSymmetricRow.holds Try.pinned (OpenSpec.ofChange fnExactAreSymmetricSpec)

/-- ITS FALSE NEIGHBOUR: 'it returns false'. Refute it at one input. -/
def fnExactAreSymmetricWrong : ChangeSpec := { name := "fnExactAreSymmetric", fn := fun _ => fun
  | [d1, d2, d3] => { results := [.lit (.bool false)], args := [d1, d2, d3] }
  | _ => none }
def FnExactAreSymmetricWrongFalsely : Prop := fnExactAreSymmetricRow.holds Try.pinned (OpenSpec.ofChange fnExactAreSymmetricWrong)

/- THE SECOND FORM. 'bulk': how many values and letters a reading holds, each counted each time it is reached (what is shared counts as often as it is met; a slice's spare places count too). A statement '..UptoSaid' is the law's where the arguments, and the package variables that the reading takes, are together of bulk at most 1048576: NARROWER than '..Said'. Prove '..Said' where nothing that the law and all that it calls make is longer than what came in: it says more and counts as full. Else prove '..UptoSaid'. A law counts once. -/
mutual
def uptoBulk {H : Type} : DataW H → Nat
  | .lit (.string bytes) => bytes.length + 1
  | .lit _ => 1
  | .nil => 1
  | .ptr d => uptoBulk d + 1
  | .slice elems spare => uptoBulkAll elems + uptoBulkAll spare + 1
  | .agg parts => uptoBulkAll parts + 1
  | .iface _ d => uptoBulk d + 1
  | .map entries => uptoBulkEntries entries + 1
  | .held _ => 1
def uptoBulkAll {H : Type} : List (DataW H) → Nat
  | [] => 0
  | d :: r => uptoBulk d + uptoBulkAll r
def uptoBulkEntries {H : Type} : List (Lit × DataW H) → Nat
  | [] => 0
  | x :: r => uptoBulkEntry x + uptoBulkEntries r
def uptoBulkEntry {H : Type} : Lit × DataW H → Nat
  | (.string bytes, d) => bytes.length + uptoBulk d + 1
  | (_, d) => uptoBulk d + 1
 end
def uptoSmall : (H : Type) → List (DataW H) → Bool := fun _ ds => decide (uptoBulkAll ds ≤ 1048576)
def OpenSpec.upto (s : _root_.Go.ChangeSpec) : _root_.Go.OpenSpec := { _root_.Go.OpenSpec.ofChange s with cond := some uptoSmall }

/-- 'laws.FnProperties', WHERE WHAT IT READS IS OF BULK AT MOST 1048576: true; the input reads as it did. -/
def fnPropertiesUptoRow : OpenClaim := { program := "ytodjapljoimkgaa", sum := "a383e09c30b275b07a8d0e0634a9671ed528c8059e6bdceeef936ef2a9c1b458", func := "loop.example/g00520/laws.FnProperties", spec := "fnProperties", unfollowed := true, recurses := true, apart := false, narrowed := true }
def FnPropertiesUptoSaid : Prop := fnPropertiesUptoRow.holds Try.pinned (OpenSpec.upto fnPropertiesSpec)

/-- 'laws.FnExactMonotoneFault', WHERE WHAT IT READS IS OF BULK AT MOST 1048576: true; the input reads as it did. -/
def fnExactMonotoneFaultUptoRow : OpenClaim := { program := "ytodjapljoimkgaa", sum := "a383e09c30b275b07a8d0e0634a9671ed528c8059e6bdceeef936ef2a9c1b458", func := "loop.example/g00520/laws.FnExactMonotoneFault", spec := "fnExactMonotoneFault", unfollowed := true, recurses := true, apart := false, narrowed := true }
def FnExactMonotoneFaultUptoSaid : Prop := fnExactMonotoneFaultUptoRow.holds Try.pinned (OpenSpec.upto fnExactMonotoneFaultSpec)

/-- 'laws.FnExactSuperadditiveFault', WHERE WHAT IT READS IS OF BULK AT MOST 1048576: true; the input reads as it did. -/
def fnExactSuperadditiveFaultUptoRow : OpenClaim := { program := "ytodjapljoimkgaa", sum := "a383e09c30b275b07a8d0e0634a9671ed528c8059e6bdceeef936ef2a9c1b458", func := "loop.example/g00520/laws.FnExactSuperadditiveFault", spec := "fnExactSuperadditiveFault", unfollowed := true, recurses := true, apart := false, narrowed := true }
def FnExactSuperadditiveFaultUptoSaid : Prop := fnExactSuperadditiveFaultUptoRow.holds Try.pinned (OpenSpec.upto fnExactSuperadditiveFaultSpec)

/-- 'laws.FnExactConvexFault', WHERE WHAT IT READS IS OF BULK AT MOST 1048576: true; the input reads as it did. -/
def fnExactConvexFaultUptoRow : OpenClaim := { program := "ytodjapljoimkgaa", sum := "a383e09c30b275b07a8d0e0634a9671ed528c8059e6bdceeef936ef2a9c1b458", func := "loop.example/g00520/laws.FnExactConvexFault", spec := "fnExactConvexFault", unfollowed := true, recurses := true, apart := false, narrowed := true }
def FnExactConvexFaultUptoSaid : Prop := fnExactConvexFaultUptoRow.holds Try.pinned (OpenSpec.upto fnExactConvexFaultSpec)

/-- 'laws.FnExactIsMonotone', WHERE WHAT IT READS IS OF BULK AT MOST 1048576: true; the input reads as it did. -/
def fnExactIsMonotoneUptoRow : OpenClaim := { program := "ytodjapljoimkgaa", sum := "a383e09c30b275b07a8d0e0634a9671ed528c8059e6bdceeef936ef2a9c1b458", func := "loop.example/g00520/laws.FnExactIsMonotone", spec := "fnExactIsMonotone", unfollowed := true, recurses := true, apart := false, narrowed := true }
def FnExactIsMonotoneUptoSaid : Prop := fnExactIsMonotoneUptoRow.holds Try.pinned (OpenSpec.upto fnExactIsMonotoneSpec)

/-- 'laws.FnExactIsSuperadditive', WHERE WHAT IT READS IS OF BULK AT MOST 1048576: true; the input reads as it did. -/
def fnExactIsSuperadditiveUptoRow : OpenClaim := { program := "ytodjapljoimkgaa", sum := "a383e09c30b275b07a8d0e0634a9671ed528c8059e6bdceeef936ef2a9c1b458", func := "loop.example/g00520/laws.FnExactIsSuperadditive", spec := "fnExactIsSuperadditive", unfollowed := true, recurses := true, apart := false, narrowed := true }
def FnExactIsSuperadditiveUptoSaid : Prop := fnExactIsSuperadditiveUptoRow.holds Try.pinned (OpenSpec.upto fnExactIsSuperadditiveSpec)

/-- 'laws.FnExactIsConvex', WHERE WHAT IT READS IS OF BULK AT MOST 1048576: true; the input reads as it did. -/
def fnExactIsConvexUptoRow : OpenClaim := { program := "ytodjapljoimkgaa", sum := "a383e09c30b275b07a8d0e0634a9671ed528c8059e6bdceeef936ef2a9c1b458", func := "loop.example/g00520/laws.FnExactIsConvex", spec := "fnExactIsConvex", unfollowed := true, recurses := true, apart := false, narrowed := true }
def FnExactIsConvexUptoSaid : Prop := fnExactIsConvexUptoRow.holds Try.pinned (OpenSpec.upto fnExactIsConvexSpec)

/-- 'laws.FnExactNullPlayers', WHERE WHAT IT READS IS OF BULK AT MOST 1048576: true; the input reads as it did. -/
def fnExactNullPlayersUptoRow : OpenClaim := { program := "ytodjapljoimkgaa", sum := "a383e09c30b275b07a8d0e0634a9671ed528c8059e6bdceeef936ef2a9c1b458", func := "loop.example/g00520/laws.FnExactNullPlayers", spec := "fnExactNullPlayers", apart := false, narrowed := true }
def FnExactNullPlayersUptoSaid : Prop := fnExactNullPlayersUptoRow.holds Try.pinned (OpenSpec.upto fnExactNullPlayersSpec)

/-- 'laws.FnExactAreSymmetric', WHERE WHAT IT READS IS OF BULK AT MOST 1048576: true; the input reads as it did. -/
def fnExactAreSymmetricUptoRow : OpenClaim := { program := "ytodjapljoimkgaa", sum := "a383e09c30b275b07a8d0e0634a9671ed528c8059e6bdceeef936ef2a9c1b458", func := "loop.example/g00520/laws.FnExactAreSymmetric", spec := "fnExactAreSymmetric", apart := false, narrowed := true }
def FnExactAreSymmetricUptoSaid : Prop := fnExactAreSymmetricUptoRow.holds Try.pinned (OpenSpec.upto fnExactAreSymmetricSpec)

end Rows
end Go.Proofs.Ytodjapljoimkgaa
