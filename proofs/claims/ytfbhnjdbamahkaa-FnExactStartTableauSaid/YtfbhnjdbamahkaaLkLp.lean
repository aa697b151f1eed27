/- A kind of arguments and results of exact laws: linear programs. -/
import Derived.Test.YtfbhnjdbamahkaaLkBase
import Derived.Test.YtfbhnjdbamahkaaLkIn
import Derived.Test.YtfbhnjdbamahkaaLpV
namespace Go.Proofs.Ytfbhnjdbamahkaa
open Go.RowKit
open Ve (R)
open Lp (P)
/-- Small enough. -/
def LpOk (p : P) : Prop := LpFits p
theorem lpOk {p : P} (h : lpN p ≤ 1048576) : LpOk p := lpFits h
theorem LpC.rg {w : World} {x y z : Value} {p : P} (h : LpC w x y z p) : Rg (fun w' => LpC w' x y z p) 0 w.heap.size w :=
  ⟨h, Nat.le_refl _, fun w' hs hk => by
    obtain ⟨a, b, c, c1, c2, c3, e1, e2, e3, hi⟩ := h
    exact ⟨a, b, c, c1, c2, c3, e1, e2, e3, LpIn.mono ⟨hi.mA.same fun k h => hk k (Nat.zero_le _) h, hi.mB.same fun k h => hk k (Nat.zero_le _) h, hi.mC.of_low fun k h => hk k (Nat.zero_le _) h⟩ hs⟩⟩
theorem OwnLP.size {lo hi : Nat} {w : World} {v : Value} {p : P} (h : OwnLP lo hi w v p) : hi ≤ w.heap.size := by
  obtain ⟨_, _, _, _, _, _, _, _, _, h4, _⟩ := h.ex
  exact h4
theorem OwnLP.reads_c {lo hi : Nat} {w : World} {x y z : Value} {p : P} (h : OwnLP lo hi w (.agg #[x, y, z]) p) : LpC w x y z p := by
  obtain ⟨a, b, c, c1, c2, c3, e, hi, hh⟩ := h.reads
  injection e with e
  have e1 : x = .slice a p.A.length c1 := by have := congrArg (fun q => q[0]?) e; simpa using this
  have e2 : y = .slice b p.B.length c2 := by have := congrArg (fun q => q[1]?) e; simpa using this
  have e3 : z = .slice c p.C.length c3 := by have := congrArg (fun q => q[2]?) e; simpa using this
  exact ⟨a, b, c, c1, c2, c3, e1, e2, e3, hi.mono hh⟩
/-- .. whose slice of right-hand sides has room for what it holds. -/
def LpX (w : World) (x y z : Value) (p : P) : Prop := LpC w x y z p ∧ ∀ (b : Option Addr) (n c : Nat), y = .slice b n c → p.B.length ≤ c
theorem OwnLP.reads_x {lo hi : Nat} {w : World} {x y z : Value} {p : P} (h : OwnLP lo hi w (.agg #[x, y, z]) p) : LpX w x y z p := by
  refine ⟨h.reads_c, fun b n c e => ?_⟩
  obtain ⟨m1, m2, vA, vB, vC, e2, _, _, _, _, _, ⟨hB, _⟩, _⟩ := h
  injection e2 with e2
  have e3 : y = vB := by have := congrArg (fun q => q[1]?) e2; simpa using this
  subst e3
  obtain ⟨_, ⟨e4, h4⟩ | ⟨g, cap, cur, e4, _, _, hnc, _⟩⟩ := hB
  · omega
  · rw [e] at e4
    injection e4 with e5 e6 e7
    omega
theorem OwnLP.rg {lo hi : Nat} {w : World} {v : Value} {p : P} (h : OwnLP lo hi w v p) : Rg (fun w' => OwnLP lo hi w' v p) lo hi w := by
  refine ⟨h, h.size, fun w' hs hk => ?_⟩
  obtain ⟨m1, m2, vA, vB, vC, rfl, h1, h2, h3, h4, hA, ⟨hB, kB⟩, hC, kC⟩ := h
  exact ⟨m1, m2, vA, vB, vC, rfl, h1, h2, h3, Nat.le_trans h4 hs, hA.same fun k a1 a2 _ => hk k a1 (by omega), ⟨owns_same hB fun g hg => by have := World.ownsRow.lt hB g hg; have := kB g hg; exact hk g (by omega) (by omega), kB⟩,
    owns_same hC fun g hg => by have := World.ownsRow.lt hC g hg; have := kC g hg; exact hk g (by omega) (by omega), kC⟩
theorem toLP_k {w : World} {x y z : Value} {p : P} (h : LpC w x y z p) (hf : LpOk p) :
    Calls Try.prog 26 #[.agg #[x, y, z]] w fun e w' => (∃ x y z : Value, e = .returned (.agg #[x, y, z]) ∧ OwnLP w.heap.size w'.heap.size w' (.agg #[x, y, z]) p) ∧ Below w.heap.size w w' :=
  (toLP_c h hf).mono fun _ _ ⟨⟨x, y, z, h1, _, h3⟩, hb⟩ => ⟨⟨x, y, z, h1, h3⟩, hb⟩
theorem eqLP_k {w : World} {x y z x' y' z' : Value} {p : P} (h : LpC w x y z p) (h' : LpC w x' y' z' p) (hf : LpOk p) :
    Calls Try.prog 28 #[.agg #[x, y, z], .agg #[x', y', z']] w fun e w' => e = .returned (.bool true) ∧ Below w.heap.size w w' := eqLP_c h h' hf
theorem markLP_k {lo hi : Nat} {w : World} {x y z : Value} {p : P} (h : OwnLP lo hi w (.agg #[x, y, z]) p) (hf : LpOk p) :
    Calls Try.prog 32 #[.agg #[x, y, z], .int .i64 1] w fun e w' => (∃ r : Int, e = .returned (.int .i64 r) ∧ 0 ≤ r) ∧ Turned lo hi w w' :=
  markLP lo hi _ p hf w h
end Go.Proofs.Ytfbhnjdbamahkaa
