/- The walk of FnExactCostRow. -/
import Derived.Test.YtafkjebfdmgdeaaTaL6
import Derived.Test.YtafkjebfdmgdeaaTaI
import Derived.Test.YtafkjebfdmgdeaaTaK
import Derived.Test.YtafkjebfdmgdeaaTaN
namespace Go.Proofs.Ytafkjebfdmgdeaa
open Go.RowKit
open Ve (R)
open Ta (T)
theorem costR_len {t : T} {cost : List R} (h : TabOk t) : (Ta.costR t cost).length ≤ 1048576 := by
  cases hk : Ta.costK t cost with
  | false => rw [Ta.cost_no hk]; simp
  | true =>
    have h1 := Ta.cost_len hk
    have hg : Ta.good t = true := by
      cases hg : Ta.good t with
      | true => rfl
      | false => rw [Ta.cost_form hg] at hk; cases hk
    have h2 := good_small hg h.2
    omega
theorem made_ratsK {xs : List R} {k : Bool} {w w' : World} {e : Ending} (h : MakesRatsK xs k w e w') : (∃ v : Value, e = .returned (.tuple #[v, .bool k]) ∧ RsRats w.heap.size w'.heap.size w' v xs) ∧ Below w.heap.size w w' := by
  obtain ⟨v, he, ho, hb⟩ := h
  exact ⟨⟨v, he, rats_new ho⟩, hb⟩
theorem fnExactCostRow.walk (a b : Option Addr) (c1 c2 : Nat) (t : T) (a1 : Option Addr) (cap1 : Nat) (xs : List R) (w : World) (n0 : TabLens t) (h0 : TabIn w.heap.size w a b t) (w0 : (Lit.int .i64 t.cols).wf = true) (n1 : xs.length ≤ 9223372036854775807) (h1 : RatsIn w.heap.size w a1 xs) :
    Calls Try.prog 8 #[tabV a b c1 c2 t, .slice a1 xs.length cap1] w fun e w' => e = .returned (.bool true) ∧ Below w.heap.size w w' :=
  fnExactCostRow.walk_c t xs (Ta.costR t xs) (Ta.costK t xs) (fun f _ => costR_len f)
    (fun f g w x y z v ⟨a, b, c1, c2, e0, e1, e2, h⟩ ⟨a1, c, e3, h3⟩ => by
      subst e0 e1 e2 e3
      exact (spec_CostRow w.heap.size a b a1 c1 c2 c t xs f.1 g w (Nat.le_refl _) h h3).mono fun _ _ hm => made_ratsK hm)
    (fun f g w x y z v ⟨a, b, c1, c2, e0, e1, e2, h⟩ ⟨a1, c, e3, h3⟩ => by
      subst e0 e1 e2 e3
      exact (impl_CostRow w.heap.size a b a1 c1 c2 c t xs f.1 g w (Nat.le_refl _) h h3).mono fun _ _ hm => made_ratsK hm)
    w _ _ _ _ ⟨n0, w0⟩ n1 ⟨a, b, c1, c2, rfl, rfl, rfl, h0⟩ ⟨a1, cap1, rfl, h1⟩
end Go.Proofs.Ytafkjebfdmgdeaa
