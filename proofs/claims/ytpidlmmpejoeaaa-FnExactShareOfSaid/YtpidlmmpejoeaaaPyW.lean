/- The walks of the exact laws of payoffs. -/
import Derived.Test.YtpidlmmpejoeaaaGmOpen
import Derived.Test.YtpidlmmpejoeaaaGVa
import Derived.Test.YtpidlmmpejoeaaaPyG
import Derived.Test.YtpidlmmpejoeaaaPyI
import Derived.Test.YtpidlmmpejoeaaaPyJ
import Derived.Test.YtpidlmmpejoeaaaPyL1
import Derived.Test.YtpidlmmpejoeaaaPyL2
import Derived.Test.YtpidlmmpejoeaaaPyL3
import Derived.Test.YtpidlmmpejoeaaaPyL4
import Derived.Test.YtpidlmmpejoeaaaPyL5
import Derived.Test.YtpidlmmpejoeaaaPyL6
import Derived.Test.YtpidlmmpejoeaaaPyL8
namespace Go.Proofs.Ytpidlmmpejoeaaa
open Go.RowKit
open Ve (R)
open Gm (G)
theorem fnExactIsPayoff.walk (x y : Value) (g : G) (a : Option Addr) (c : Nat) (xs : List R) (w : World) (n0 : GmLens g) (h0 : GmC w x y g) (n1 : xs.length ≤ 9223372036854775807) (h1 : RatsIn w.heap.size w a xs) :
  Calls Try.prog 4 #[.agg #[x, y], .slice a xs.length c] w fun e w' => e = .returned (.bool true) ∧ Below w.heap.size w w' :=
 fnExactIsPayoff.walk_c g xs (Py.isPay g xs) (fun f0 f1 _ _ _ _ c0 c1 => spec_IsPayoff _ rfl c0 c1 f0 f1) (fun f0 f1 _ _ _ _ c0 c1 => impl_IsPayoff _ rfl c0 c1 f0 f1) w _ _ _ n0 n1 h0 ⟨a, c, rfl, h1⟩
theorem fnExactInCore.walk (x y : Value) (g : G) (a : Option Addr) (c : Nat) (xs : List R) (w : World) (n0 : GmLens g) (h0 : GmC w x y g) (n1 : xs.length ≤ 9223372036854775807) (h1 : RatsIn w.heap.size w a xs) :
  Calls Try.prog 7 #[.agg #[x, y], .slice a xs.length c] w fun e w' => e = .returned (.bool true) ∧ Below w.heap.size w w' :=
 fnExactInCore.walk_c g xs (Py.inC g xs) (fun f0 f1 _ _ _ _ c0 c1 => spec_InCore _ rfl c0 c1 f0 f1) (fun f0 f1 _ _ _ _ c0 c1 => impl_InCore _ rfl c0 c1 f0 f1) w _ _ _ n0 n1 h0 ⟨a, c, rfl, h1⟩
theorem fnExactIsImputation.walk (x y : Value) (g : G) (a : Option Addr) (c : Nat) (xs : List R) (w : World) (n0 : GmLens g) (h0 : GmC w x y g) (n1 : xs.length ≤ 9223372036854775807) (h1 : RatsIn w.heap.size w a xs) :
  Calls Try.prog 8 #[.agg #[x, y], .slice a xs.length c] w fun e w' => e = .returned (.bool true) ∧ Below w.heap.size w w' :=
 fnExactIsImputation.walk_c g xs (Py.imp g xs) (fun f0 f1 _ _ _ _ c0 c1 => spec_IsImputation _ rfl c0 c1 f0 f1) (fun f0 f1 _ _ _ _ c0 c1 => impl_IsImputation _ rfl c0 c1 f0 f1) w _ _ _ n0 n1 h0 ⟨a, c, rfl, h1⟩
theorem fnExactCompareExcesses.walk (a0 : Option Addr) (c0 : Nat) (xs : List R) (a1 : Option Addr) (c1 : Nat) (ys : List R) (w : World) (n0 : xs.length ≤ 9223372036854775807) (h0 : RatsIn w.heap.size w a0 xs) (n1 : ys.length ≤ 9223372036854775807) (h1 : RatsIn w.heap.size w a1 ys) :
  Calls Try.prog 10 #[.slice a0 xs.length c0, .slice a1 ys.length c1] w fun e w' => e = .returned (.bool true) ∧ Below w.heap.size w w' :=
 fnExactCompareExcesses.walk_c xs ys (Py.cmpL xs ys) (fun f0 f1 _ _ _ d0 d1 => spec_CompareExcesses d0 d1 f0 f1) (fun f0 f1 _ _ _ d0 d1 => impl_CompareExcesses d0 d1 f0 f1) w _ _ n0 n1 ⟨a0, c0, rfl, h0⟩ ⟨a1, c1, rfl, h1⟩
theorem fnExactShareOf.walk (a : Option Addr) (c : Nat) (xs : List R) (i : Int) (_ : (Lit.int .i64 i).wf = true) (w : World) (n0 : xs.length ≤ 9223372036854775807) (h0 : RatsIn w.heap.size w a xs) :
  Calls Try.prog 3 #[.slice a xs.length c, .int .i64 i] w fun e w' => e = .returned (.bool true) ∧ Below w.heap.size w w' :=
 fnExactShareOf.walk_c xs i (Py.share xs i).1 (Py.share xs i).2 (fun f0 _ _ d0 => spec_ShareOf i d0 f0) (fun f0 _ _ d0 => impl_ShareOf i d0 f0) w _ n0 ⟨a, c, rfl, h0⟩
theorem fnExactExcessOf.walk (x y : Value) (g : G) (a : Option Addr) (c : Nat) (xs : List R) (i : Int) (_ : (Lit.int .i64 i).wf = true) (w : World) (n0 : GmLens g) (h0 : GmC w x y g) (n1 : xs.length ≤ 9223372036854775807) (h1 : RatsIn w.heap.size w a xs) :
  Calls Try.prog 5 #[.agg #[x, y], .slice a xs.length c, .int .i64 i] w fun e w' => e = .returned (.bool true) ∧ Below w.heap.size w w' :=
 fnExactExcessOf.walk_c g xs i (Py.exc g xs i).1 (Py.exc g xs i).2 (fun f0 f1 _ _ _ _ c0 c1 => spec_ExcessOf i c0 c1 f0 f1) (fun f0 f1 _ _ _ _ c0 c1 => impl_ExcessOf i c0 c1 f0 f1) w _ _ _ n0 n1 h0 ⟨a, c, rfl, h1⟩
theorem worstL_small (g : G) (xs : List R) : (Py.worstL g xs).length ≤ 1048576 := by
 rcases hs : Py.some_ g xs with _ | _
 ·
  rw [(Py.worst_no hs).2]; simp
 ·
  rw [(Py.worst_yes hs).2]
  have h1 := Py.tied_len (Py.lst g xs) (Py.mx (Py.lst g xs) ((Py.lst g xs).length - 1)) (Py.lst g xs).length
  have h2 := Py.lst_len g xs
  omega
theorem worst_sol {w w' : World} {e : Ending} {x : R} {ls : List Int} {k : Bool} (h : WorstPost x ls k w e w') :
  (∃ y : Value, e = .returned (.tuple #[.agg #[.int .i64 x.1, .int .i64 x.2], y, .bool k]) ∧ RsInts w.heap.size w'.heap.size w' y ls) ∧ Below w.heap.size w w' := by
 obtain ⟨v, he, ho, hb⟩ := h
 exact ⟨⟨v, he, ints_new ho⟩, hb⟩
theorem fnExactWorstExcess.walk (x y : Value) (g : G) (a : Option Addr) (c : Nat) (xs : List R) (w : World) (n0 : GmLens g) (h0 : GmC w x y g) (n1 : xs.length ≤ 9223372036854775807) (h1 : RatsIn w.heap.size w a xs) :
  Calls Try.prog 6 #[.agg #[x, y], .slice a xs.length c] w fun e w' => e = .returned (.bool true) ∧ Below w.heap.size w w' :=
 fnExactWorstExcess.walk_c g xs (Py.worst g xs) (Py.worstL g xs) (Py.some_ g xs) (fun _ _ => worstL_small g xs) (fun f0 f1 _ _ _ _ c0 c1 => (spec_WorstExcess c0 c1 f0 f1).mono fun _ _ h => worst_sol h) (fun f0 f1 _ _ _ _ c0 c1 => (impl_WorstExcess c0 c1 f0 f1).mono fun _ _ h => worst_sol h) w _ _ _ n0 n1 h0 ⟨a, c, rfl, h1⟩
end Go.Proofs.Ytpidlmmpejoeaaa
