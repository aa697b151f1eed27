/- FnExactCheckLP's walk. -/
import Derived.Test.YtmjmjilpcekngaaLpL5
import Derived.Test.YtmjmjilpcekngaaGLj
namespace Go.Proofs.Ytmjmjilpcekngaa
open Go.RowKit
open Ve (R)
open Lp (P Res)
theorem fnExactCheckLP.walk (a b c : Option Addr) (c1 c2 c3 : Nat) (p : P) (a' b' c' : Option Addr) (d1 d2 d3 : Nat) (r : Res) (w : World) (hl : LpLens p) (hz : LpIn w.heap.size w a b c p) (hl' : ResLens r) (hz' : ResIn w.heap.size w a' b' c' r) (hs' : (Lit.int .i64 r.status).wf = true) (_ht' : (Lit.int .i64 r.pivots).wf = true) :
  Calls Try.prog 5 #[.agg #[.slice a p.A.length c1, .slice b p.B.length c2, .slice c p.C.length c3], resV a' b' c' d1 d2 d3 r] w fun e w' => e = .returned (.bool true) ∧ Below w.heap.size w w' :=
 fnExactCheckLP.walk_c Lp.chk
  (fun w x y z u0 u1 u2 u3 u4 u5 u6 p r f f' _ ⟨a, b, c, c1, c2, c3, e0, e1, e2, h⟩ ⟨a', b', c', d1, d2, d3, g0, g1, g2, g3, g4, g5, g6, h'⟩ => by
   subst e0 e1 e2 g0 g1 g2 g3 g4 g5 g6
   exact spec_CheckLP w.heap.size a b c a' b' c' c1 c2 c3 d1 d2 d3 p r f f' _ rfl w (Nat.le_refl _) h h')
  (fun w x y z u0 u1 u2 u3 u4 u5 u6 p r f f' hw ⟨a, b, c, c1, c2, c3, e0, e1, e2, h⟩ ⟨a', b', c', d1, d2, d3, g0, g1, g2, g3, g4, g5, g6, h'⟩ => by
   subst e0 e1 e2 g0 g1 g2 g3 g4 g5 g6
   exact impl_CheckLP w.heap.size a b c a' b' c' c1 c2 c3 d1 d2 d3 p r hw f f' _ rfl w (Nat.le_refl _) h h')
  w _ _ _ _ _ _ _ _ _ _ p r hl hl' ⟨a, b, c, c1, c2, c3, rfl, rfl, rfl, hz⟩ ⟨a', b', c', d1, d2, d3, rfl, rfl, rfl, rfl, rfl, rfl, rfl, hz'⟩ hs'
end Go.Proofs.Ytmjmjilpcekngaa
