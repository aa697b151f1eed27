/- The specification's l8Mate; the draws of AddGames' arguments. -/
import Derived.Test.YtodjapljoimkgaaGmBe
import Derived.Test.YtodjapljoimkgaaGmF
namespace Go.Proofs.Ytodjapljoimkgaa
open Go.RowKit
open Gm (G)
theorem Cur.up {w w' : World} {p : Nat} {a : Option Addr} {len cap : Nat} (h : Cur w p a len cap) (hb : Below w.heap.size w w') : Cur w' p a len cap := by
  obtain ⟨i, x, h1, h2, hk⟩ := h
  exact ⟨i, x, h1, h2, (hb.block p (lt_of_block hk)).trans hk⟩
theorem Only.of_below {p : Nat} {w w' : World} (hb : Below w.heap.size w w') (hp : p ≤ w.heap.size) : Only p w w' := ⟨hb.mono hp, fun k _ h2 => hb.block k h2⟩
/-- A game of as many values has been drawn. -/
def DrewMate (g : G) (p : Nat) (a : Option Addr) (len cap : Nat) (w : World) (e : Ending) (w' : World) : Prop :=
  ∃ (xs : List Int) (v : Value), e = .returned (.agg #[.int .i64 g.n, v]) ∧ OwnInts w.heap.size w' v xs ∧ xs.length = g.v.length ∧ Cur w' p a len cap ∧ Only p w w'
/-- Two games have been drawn. -/
def DrewTwo (w : World) (e : Ending) (w' : World) : Prop :=
  ∃ (g g' : G) (v v' : Value), e = .returned (.tuple #[.agg #[.int .i64 g.n, v], .agg #[.int .i64 g'.n, v']]) ∧ GmC w' (.int .i64 g.n) v g ∧ GmC w' (.int .i64 g'.n) v' g' ∧ GmOk g ∧ GmOk g' ∧ Below w.heap.size w w'
theorem bent_ok {g : G} (h1 : -1 ≤ g.n) (h2 : g.n ≤ 6) (h3 : g.v.length ≤ 33) : GmOk g := ⟨by omega, by
  have e1 : IntKind.i64.min = -9223372036854775808 := rfl
  have e2 : IntKind.i64.max = 9223372036854775807 := rfl
  simp [Lit.wf, e1, e2]
  omega⟩
theorem GmC.of_owns {B : Nat} {w : World} {v : Value} {g : G} (h : OwnInts B w v g.v) : GmC w (.int .i64 g.n) v g := by
  obtain ⟨a, c, rfl⟩ := ints_shape h
  exact GmC.of_own h
end Go.Proofs.Ytodjapljoimkgaa
