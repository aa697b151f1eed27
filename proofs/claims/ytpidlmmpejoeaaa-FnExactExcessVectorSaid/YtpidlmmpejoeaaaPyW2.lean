/- The walk of the exact law of ExcessVector. -/
import Derived.Test.YtpidlmmpejoeaaaGmOpen
import Derived.Test.YtpidlmmpejoeaaaGVa
import Derived.Test.YtpidlmmpejoeaaaPyO
import Derived.Test.YtpidlmmpejoeaaaPyP
import Derived.Test.YtpidlmmpejoeaaaPyL7
namespace Go.Proofs.Ytpidlmmpejoeaaa
open Go.RowKit
open Ve (R)
open Gm (G)
theorem vec_sol {w w' : World} {e : Ending} {xs : List R} (h : MakesRats xs w e w') : (∃ y : Value, e = .returned y ∧ RsRats w.heap.size w'.heap.size w' y xs) ∧ Below w.heap.size w w' := by
 obtain ⟨v, he, ho, hb⟩ := h
 exact ⟨⟨v, he, rats_new ho⟩, hb⟩
theorem vec_small (g : G) (xs : List R) : (Py.vec g xs).length ≤ 1048576 := by
 have h1 := Py.vec_len g xs
 have h2 := Py.lst_len g xs
 omega
theorem fnExactExcessVector.walk (x y : Value) (g : G) (a : Option Addr) (c : Nat) (xs : List R) (w : World) (n0 : GmLens g) (h0 : GmC w x y g) (n1 : xs.length ≤ 9223372036854775807) (h1 : RatsIn w.heap.size w a xs) :
  Calls Try.prog 9 #[.agg #[x, y], .slice a xs.length c] w fun e w' => e = .returned (.bool true) ∧ Below w.heap.size w w' :=
 fnExactExcessVector.walk_c g xs (Py.vec g xs) (fun _ _ => vec_small g xs) (fun f0 f1 _ _ _ _ c0 c1 => (spec_ExcessVector c0 c1 f0 f1).mono fun _ _ h => vec_sol h) (fun f0 f1 _ _ _ _ c0 c1 => (impl_ExcessVector c0 c1 f0 f1).mono fun _ _ h => vec_sol h) w _ _ _ n0 n1 h0 ⟨a, c, rfl, h1⟩
end Go.Proofs.Ytpidlmmpejoeaaa
