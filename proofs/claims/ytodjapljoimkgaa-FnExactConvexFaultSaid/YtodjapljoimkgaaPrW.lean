/- The walks of the exact laws of properties of games. -/
import Derived.Test.YtodjapljoimkgaaGmOpen
import Derived.Test.YtodjapljoimkgaaPrF
import Derived.Test.YtodjapljoimkgaaPrL1
import Derived.Test.YtodjapljoimkgaaPrL2
import Derived.Test.YtodjapljoimkgaaPrL3
import Derived.Test.YtodjapljoimkgaaPrL4
import Derived.Test.YtodjapljoimkgaaPrL5
import Derived.Test.YtodjapljoimkgaaPrL6
import Derived.Test.YtodjapljoimkgaaPrL7
import Derived.Test.YtodjapljoimkgaaPrL8
namespace Go.Proofs.Ytodjapljoimkgaa
open Go.RowKit
open Gm (G)
theorem fnExactMonotoneFault.walk (x y : Value) (g : G) (w : World) (n : GmLens g) (h : GmC w x y g) :
    Calls Try.prog 4 #[.agg #[x, y]] w fun e w' => e = .returned (.bool true) ∧ Below w.heap.size w w' := by
  obtain ⟨A, B, bad, hF⟩ : ∃ A B bad, Pr.fault Pr.okM g = (A, B, bad) := ⟨_, _, _, rfl⟩
  exact fnExactMonotoneFault.walk_c g A B bad (fun f _ _ _ c => spec_MonotoneFault hF c f) (fun f _ _ _ c => impl_MonotoneFault hF c f) w _ _ n h
theorem fnExactIsMonotone.walk (x y : Value) (g : G) (w : World) (n : GmLens g) (h : GmC w x y g) :
    Calls Try.prog 7 #[.agg #[x, y]] w fun e w' => e = .returned (.bool true) ∧ Below w.heap.size w w' :=
  fnExactIsMonotone.walk_c g (Pr.has Pr.okM g) (fun f _ _ _ c => spec_IsMonotone _ rfl c f) (fun f _ _ _ c => impl_IsMonotone _ rfl c f) w _ _ n h
theorem fnExactSuperadditiveFault.walk (x y : Value) (g : G) (w : World) (n : GmLens g) (h : GmC w x y g) :
    Calls Try.prog 5 #[.agg #[x, y]] w fun e w' => e = .returned (.bool true) ∧ Below w.heap.size w w' := by
  obtain ⟨A, B, bad, hF⟩ : ∃ A B bad, Pr.fault Pr.okS g = (A, B, bad) := ⟨_, _, _, rfl⟩
  exact fnExactSuperadditiveFault.walk_c g A B bad (fun f _ _ _ c => spec_SuperadditiveFault hF c f) (fun f _ _ _ c => impl_SuperadditiveFault hF c f) w _ _ n h
theorem fnExactIsSuperadditive.walk (x y : Value) (g : G) (w : World) (n : GmLens g) (h : GmC w x y g) :
    Calls Try.prog 8 #[.agg #[x, y]] w fun e w' => e = .returned (.bool true) ∧ Below w.heap.size w w' :=
  fnExactIsSuperadditive.walk_c g (Pr.has Pr.okS g) (fun f _ _ _ c => spec_IsSuperadditive _ rfl c f) (fun f _ _ _ c => impl_IsSuperadditive _ rfl c f) w _ _ n h
theorem fnExactConvexFault.walk (x y : Value) (g : G) (w : World) (n : GmLens g) (h : GmC w x y g) :
    Calls Try.prog 6 #[.agg #[x, y]] w fun e w' => e = .returned (.bool true) ∧ Below w.heap.size w w' := by
  obtain ⟨A, B, bad, hF⟩ : ∃ A B bad, Pr.fault Pr.okC g = (A, B, bad) := ⟨_, _, _, rfl⟩
  exact fnExactConvexFault.walk_c g A B bad (fun f _ _ _ c => spec_ConvexFault hF c f) (fun f _ _ _ c => impl_ConvexFault hF c f) w _ _ n h
theorem fnExactIsConvex.walk (x y : Value) (g : G) (w : World) (n : GmLens g) (h : GmC w x y g) :
    Calls Try.prog 9 #[.agg #[x, y]] w fun e w' => e = .returned (.bool true) ∧ Below w.heap.size w w' :=
  fnExactIsConvex.walk_c g (Pr.has Pr.okC g) (fun f _ _ _ c => spec_IsConvex _ rfl c f) (fun f _ _ _ c => impl_IsConvex _ rfl c f) w _ _ n h
theorem fnExactAreSymmetric.walk (x y : Value) (g : G) (i : Int) (_ : (Lit.int .i64 i).wf = true) (j : Int) (_ : (Lit.int .i64 j).wf = true) (w : World) (n : GmLens g) (h : GmC w x y g) :
    Calls Try.prog 11 #[.agg #[x, y], .int .i64 i, .int .i64 j] w fun e w' => e = .returned (.bool true) ∧ Below w.heap.size w w' :=
  fnExactAreSymmetric.walk_c g i j (Pr.symR g i j) (fun f _ _ _ c => spec_AreSymmetric i j _ rfl c f) (fun f _ _ _ c => impl_AreSymmetric i j _ rfl c f) w _ _ n h
theorem nullR_len (g : G) (hg : Gm.vld g = true) : (Pr.nullR g).length ≤ 5 := by
  have h1 := Gm.vld_n hg
  have h2 := Pr.nulls_len g g.n.toNat
  rw [Pr.nullR_yes hg]
  omega
theorem nullR_small (g : G) : (Pr.nullR g).length ≤ 1048576 := by
  rcases hv : Gm.vld g with _ | _
  · rw [Pr.nullR_no hv]; simp
  · have := nullR_len g hv; omega
theorem ints_made {xs : List Int} {w : World} {e : Ending} {w' : World} (h : MakesInts xs w e w') : (∃ y : Value, e = .returned y ∧ RsInts w.heap.size w'.heap.size w' y xs) ∧ Below w.heap.size w w' := by
  obtain ⟨v, he, ho, hb⟩ := h
  exact ⟨⟨v, he, ints_new ho⟩, hb⟩
theorem fnExactNullPlayers.walk (x y : Value) (g : G) (w : World) (n : GmLens g) (h : GmC w x y g) :
    Calls Try.prog 10 #[.agg #[x, y]] w fun e w' => e = .returned (.bool true) ∧ Below w.heap.size w w' :=
  fnExactNullPlayers.walk_c g (Pr.nullR g) (fun _ => nullR_small g) (fun f _ _ _ c => (spec_NullPlayers c f).mono fun _ _ h => ints_made h) (fun f _ _ _ c => (impl_NullPlayers c f).mono fun _ _ h => ints_made h) w _ _ n h
end Go.Proofs.Ytodjapljoimkgaa
