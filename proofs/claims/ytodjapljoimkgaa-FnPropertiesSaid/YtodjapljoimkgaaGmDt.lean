/- The draws of the arguments of ScaleGame, ValueOf, Restrict. -/
import Derived.Test.YtodjapljoimkgaaGmDs
import Derived.Test.YtodjapljoimkgaaLkInts
namespace Go.Proofs.Ytodjapljoimkgaa
open Go.RowKit
open Gm (G)
/-- A game and a number have been drawn. -/
def DrewGmInt (w : World) (e : Ending) (w' : World) : Prop :=
  ∃ (g : G) (v : Value) (s : Int), e = .returned (.tuple #[.agg #[.int .i64 g.n, v], .int .i64 s]) ∧ OwnInts w.heap.size w' v g.v ∧ GmOk g ∧ -1 ≤ s ∧ s ≤ 33 ∧ Below w.heap.size w w'
/-- A game, a number and a list have been drawn. -/
def DrewScl (w : World) (e : Ending) (w' : World) : Prop :=
  ∃ (g : G) (v : Value) (k : Int) (u : Value) (zs : List Int), e = .returned (.tuple #[.agg #[.int .i64 g.n, v], .int .i64 k, u]) ∧ OwnInts w.heap.size w' v g.v ∧ GmOk g ∧ OwnInts w.heap.size w' u zs ∧ zs.length ≤ 8 ∧ Below w.heap.size w w'
def SomeL (p : Nat) (a : Option Addr) (len cap : Nat) (w3 wr : World) (k : Nat) (v : Value) : Prop :=
  ∃ zs : List Int, zs.length = k ∧ OwnInts w3.heap.size wr v zs ∧ Cur wr p a len cap ∧ Only p w3 wr
end Go.Proofs.Ytodjapljoimkgaa
