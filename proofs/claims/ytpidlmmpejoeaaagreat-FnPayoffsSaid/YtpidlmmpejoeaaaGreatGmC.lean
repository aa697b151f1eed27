/- The specification's l8Copy, AddGames. -/
import Derived.Test.YtpidlmmpejoeaaaGreatGmB
import Derived.Test.YtpidlmmpejoeaaaGreatGrI
import Derived.Test.YtpidlmmpejoeaaaGreatHeldT
import Derived.StillTailTactics
namespace Go.Proofs.YtpidlmmpejoeaaaGreat
open Go.RowKit
open Gm (G)
def MakesGm (r : G × Bool) (w : World) (e : Ending) (w' : World) : Prop := (∃ x y : Value, e = .returned (.tuple #[.agg #[x, y], .bool r.2]) ∧ ResGm w.heap.size w'.heap.size w' (.agg #[x, y]) r.1) ∧ Below w.heap.size w w'
theorem ResGm.zero (lo : Nat) (w : World) : ResGm lo w.heap.size w (.agg #[.int .i64 0, .slice none 0 0]) Gm.G0 := ⟨_, rfl, ⟨none, 0, rfl, fun h => absurd rfl h⟩, Nat.le_refl _⟩
theorem ResGm.of_own' {lo : Nat} {w : World} {vV : Value} {g : G} {n : Int} (hn : g.n = n) (h : OwnInts lo w vV g.v) : ResGm lo w.heap.size w (.agg #[.int .i64 n, vV]) g := by subst hn; exact ResGm.of_own h
theorem GmC.of_own {B : Nat} {w : World} {a : Option Addr} {n c : Nat} {g : G} (h : OwnInts B w (.slice a n c) g.v) : GmC w (.int .i64 g.n) (.slice a n c) g := by
 obtain ⟨a', c', e, hr, ha, _⟩ := own_reads h
 injection e with e1 e2 e3
 subst e1 e2 e3
 exact ⟨_, _, rfl, rfl, NumsIn.of_ints hr fun p hp => (ha p hp).2⟩
theorem three_boxes (w : World) (x y x' y' : Value) (t : TypeId) (W : World) (hW : W = ((w.alloc (.cells #[x, y] t)).alloc (.cells #[x', y'] t)).alloc (.cells #[.int .i64 0, .slice none 0 0] t)) :
  CellsAt W w.heap.size #[x, y] t ∧ CellsAt W (w.heap.size + 1) #[x', y'] t ∧ CellsAt W (w.heap.size + 1 + 1) #[.int .i64 0, .slice none 0 0] t ∧ Below w.heap.size w W ∧ w.heap.size + 3 ≤ W.heap.size := by
 have h1 := ((CellsAt.new w #[x, y] t).more (.cells #[x', y'] t)).more (.cells #[.int .i64 0, .slice none 0 0] t)
 have h2 := (CellsAt.new (w.alloc (.cells #[x, y] t)) #[x', y'] t).more (.cells #[.int .i64 0, .slice none 0 0] t)
 have h3 := CellsAt.new ((w.alloc (.cells #[x, y] t)).alloc (.cells #[x', y'] t)) #[.int .i64 0, .slice none 0 0] t
 rw [size1] at h2
 rw [size2] at h3
 subst hW
 exact ⟨h1, h2, h3, ((((Below.refl w.heap.size w).alloc (Nat.le_refl _) _).alloc (by rw [size1]; omega) _).alloc (by rw [size2]; omega) _), by rw [size1, size2]; omega⟩
end Go.Proofs.YtpidlmmpejoeaaaGreat
