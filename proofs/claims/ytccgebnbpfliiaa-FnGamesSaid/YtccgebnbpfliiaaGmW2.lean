/- The walk of FnExactAddGames. -/
import Derived.Test.YtccgebnbpfliiaaGmOpen
import Derived.Test.YtccgebnbpfliiaaGmE
import Derived.Test.YtccgebnbpfliiaaGmL5
namespace Go.Proofs.Ytccgebnbpfliiaa
open Go.RowKit
open Gm (G)
theorem small_wf {n : Int} (h : -1000 ≤ n ∧ n ≤ 1000) : (Lit.int .i64 n).wf = true := by
  have e1 : IntKind.i64.min = -9223372036854775808 := rfl
  have e2 : IntKind.i64.max = 9223372036854775807 := rfl
  simp [Lit.wf, e1, e2]
  omega
theorem zero_ok : GmOk Gm.G0 := ⟨by decide, small_wf (by decide)⟩
theorem vld_ok {g : G} (h : Gm.vld g = true) : GmOk g := ⟨by have := Gm.vld_len h; omega, small_wf (by have := Gm.vld_n h; omega)⟩
theorem keep_ok (g : G) : GmOk (Gm.keep g).1 := by
  cases h : Gm.vld g with
  | true => rw [Gm.keep_yes h]; exact vld_ok h
  | false => rw [Gm.keep_no h]; exact zero_ok
theorem add_ok (g g' : G) : GmOk (Gm.add g g').1 := by
  cases h : Gm.addOk g g' with
  | true => rw [Gm.add_yes h]; exact keep_ok _
  | false => rw [Gm.add_no h]; exact zero_ok
theorem fnExactAddGames.walk (x y : Value) (g : G) (x' y' : Value) (g' : G) (w : World) (n : GmLens g) (h : GmC w x y g) (n' : GmLens g') (h' : GmC w x' y' g') :
    Calls Try.prog 8 #[.agg #[x, y], .agg #[x', y']] w fun e w' => e = .returned (.bool true) ∧ Below w.heap.size w w' :=
  fnExactAddGames.walk_c g g' (Gm.add g g').1 (Gm.add g g').2 (fun _ _ => add_ok g g') (fun f f' _ _ _ _ _ c c' => spec_AddGames c c' f f') (fun f f' _ _ _ _ _ c c' => impl_AddGames c c' f f') w _ _ _ _ n n' h h'
end Go.Proofs.Ytccgebnbpfliiaa
