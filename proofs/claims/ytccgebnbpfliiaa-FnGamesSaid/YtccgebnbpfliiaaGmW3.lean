/- The walks of FnExactScaleGame, Restrict. -/
import Derived.Test.YtccgebnbpfliiaaGmW2
import Derived.Test.YtccgebnbpfliiaaIntsOpen
import Derived.Test.YtccgebnbpfliiaaGmJ
import Derived.Test.YtccgebnbpfliiaaGmL6
import Derived.Test.YtccgebnbpfliiaaGmL7
namespace Go.Proofs.Ytccgebnbpfliiaa
open Go.RowKit
open Gm (G)
theorem scl_ok (g : G) (k : Int) (zs : List Int) : GmOk (Gm.scl g k zs).1 := by
  cases h : Gm.sclOk g k zs with
  | true => rw [Gm.scl_yes h]; exact keep_ok _
  | false => rw [Gm.scl_no h]; exact zero_ok
theorem res_ok (g : G) (s : Int) : GmOk (Gm.res g s).1 := by
  cases h : Gm.resOk g s with
  | true => rw [Gm.res_yes h]; exact vld_ok (Gm.res_vld h)
  | false => rw [Gm.res_no h]; exact zero_ok
theorem fnExactScaleGame.walk (x y : Value) (g : G) (k : Int) (_ : (Lit.int .i64 k).wf = true) (v : Value) (zs : List Int) (w : World) (n : GmLens g) (h : GmC w x y g) (n' : zs.length ≤ 9223372036854775807) (h' : InInts w v zs) :
    Calls Try.prog 9 #[.agg #[x, y], .int .i64 k, v] w fun e w' => e = .returned (.bool true) ∧ Below w.heap.size w w' :=
  fnExactScaleGame.walk_c g k zs (Gm.scl g k zs).1 (Gm.scl g k zs).2 (fun _ _ => scl_ok g k zs) (fun f f' _ _ _ _ c c' => spec_ScaleGame c c' f f') (fun f f' _ _ _ _ c c' => impl_ScaleGame c c' f f') w _ _ _ n n' h h'
theorem fnExactRestrict.walk (x y : Value) (g : G) (s : Int) (_ : (Lit.int .i64 s).wf = true) (w : World) (n : GmLens g) (h : GmC w x y g) :
    Calls Try.prog 10 #[.agg #[x, y], .int .i64 s] w fun e w' => e = .returned (.bool true) ∧ Below w.heap.size w w' :=
  fnExactRestrict.walk_c g s (Gm.res g s).1 (Gm.res g s).2 (fun _ => res_ok g s) (fun f _ _ _ c => spec_Restrict c f) (fun f _ _ _ c => impl_Restrict c f) w _ _ n h
end Go.Proofs.Ytccgebnbpfliiaa
