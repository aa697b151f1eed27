/- The walk of FnExactFormatGame: for every game the law returns true. -/
import Derived.Test.YtambneapofaclaaDoorGmOpen
import Derived.Test.YtambneapofaclaaDoorGtA
import Derived.Test.YtambneapofaclaaDoorGtL1
import Derived.Test.YtambneapofaclaaDoorPowTab
namespace Go.Proofs.YtambneapofaclaaDoor
open Go.RowKit
open Gm (G)
theorem fnExactFormatGame.walk (x y : Value) (g : G) (w : World) (n : GmLens g) (h : GmC w x y g) (hp : PowAt w) :
    Calls Tryd.prog 3 #[.agg #[x, y]] w fun e w' => e = .returned (.bool true) ∧ Below w.heap.size w w' :=
  fnExactFormatGame.walk_c g (Gt.text g) (fun f _ _ _ c => spec_FormatGame c f) (fun f _ _ _ p c => impl_FormatGame c p f) w _ _ hp n h
end Go.Proofs.YtambneapofaclaaDoor
