/- The parts LpV, LkLp. -/
import Derived.Test.YtpjnjidbdpfdcaaGLr
import Derived.Deep.RegionHeld3
import Derived.Test.YtpjnjidbdpfdcaaLkBase
import Derived.Test.YtpjnjidbdpfdcaaLkIn
namespace Go.Proofs.Ytpjnjidbdpfdcaa
open Go.RowKit
open Ve (R)
open Lp (P Res)
def LpC (w : World) (x y z : Value) (p : P) : Prop := ∃ (a b c : Option Addr) (c1 c2 c3 : Nat), x = .slice a p.A.length c1 ∧ y = .slice b p.B.length c2 ∧ z = .slice c p.C.length c3 ∧ LpIn w.heap.size w a b c p
theorem LpC.up {w w' : World} {x y z : Value} {p : P} (h : LpC w x y z p) (hb : Below w.heap.size w w') : LpC w' x y z p := by
 obtain ⟨a, b, c, c1, c2, c3, e1, e2, e3, hi⟩ := h
 exact ⟨a, b, c, c1, c2, c3, e1, e2, e3, (hi.below hb).mono hb.size⟩
theorem LpC.one {w : World} {x y z : Value} {p : P} (h : LpC w x y z p) : x.oneCell' = true ∧ y.oneCell' = true ∧ z.oneCell' = true := by
 obtain ⟨a, b, c, c1, c2, c3, rfl, rfl, rfl, _⟩ := h
 exact ⟨rfl, rfl, rfl⟩
theorem stable_lp (x y z : Value) (p : P) : Stable fun w => LpC w x y z p := fun _ _ hb h => h.up hb
def ResC (w : World) (u0 u1 u2 u3 u4 u5 u6 : Value) (r : Res) : Prop := ∃ (a b c : Option Addr) (c1 c2 c3 : Nat), u0 = .int .i64 r.status ∧ u1 = .slice a r.X.length c1 ∧ u2 = .slice b r.Y.length c2 ∧ u3 = .slice c r.ray.length c3 ∧ u4 = .int .i64 r.value.1 ∧ u5 = .int .i64 r.value.2 ∧ u6 = .int .i64 r.pivots ∧ ResIn w.heap.size w a b c r
theorem ResC.up {w w' : World} {u0 u1 u2 u3 u4 u5 u6 : Value} {r : Res} (h : ResC w u0 u1 u2 u3 u4 u5 u6 r) (hb : Below w.heap.size w w') : ResC w' u0 u1 u2 u3 u4 u5 u6 r := by
 obtain ⟨a, b, c, c1, c2, c3, e0, e1, e2, e3, e4, e5, e6, hi⟩ := h
 exact ⟨a, b, c, c1, c2, c3, e0, e1, e2, e3, e4, e5, e6, (hi.below hb).mono hb.size⟩
theorem ResC.one {w : World} {u0 u1 u2 u3 u4 u5 u6 : Value} {r : Res} (h : ResC w u0 u1 u2 u3 u4 u5 u6 r) : u0.oneCell' = true ∧ u1.oneCell' = true ∧ u2.oneCell' = true ∧ u3.oneCell' = true ∧ u4.oneCell' = true ∧ u5.oneCell' = true ∧ u6.oneCell' = true := by
 obtain ⟨a, b, c, c1, c2, c3, rfl, rfl, rfl, rfl, rfl, rfl, rfl, _⟩ := h
 exact ⟨rfl, rfl, rfl, rfl, rfl, rfl, rfl⟩
theorem stable_res (u0 u1 u2 u3 u4 u5 u6 : Value) (r : Res) : Stable fun w => ResC w u0 u1 u2 u3 u4 u5 u6 r := fun _ _ hb h => h.up hb
def NewLP (w : World) (p : P) (e : Ending) (w' : World) : Prop := ∃ x y z : Value, e = .returned (.agg #[x, y, z]) ∧ LpC w' x y z p ∧ OwnLP w.heap.size w'.heap.size w' (.agg #[x, y, z]) p
theorem eqLP_c {w : World} {x y z x' y' z' : Value} {p : P} (h : LpC w x y z p) (h' : LpC w x' y' z' p) (hf : LpFits p) :
  Calls Try.prog 9 #[.agg #[x, y, z], .agg #[x', y', z']] w fun e w' => e = .returned (.bool true) ∧ Below w.heap.size w w' := by
 obtain ⟨a, b, c, c1, c2, c3, rfl, rfl, rfl, hi⟩ := h
 obtain ⟨a', b', c', d1, d2, d3, rfl, rfl, rfl, hi'⟩ := h'
 exact eqLP w.heap.size a b c a' b' c' c1 c2 c3 d1 d2 d3 p hf w (Nat.le_refl _) hi hi'
def NewRes (w : World) (r : Res) (e : Ending) (w' : World) : Prop := ∃ u0 u1 u2 u3 u4 u5 u6 : Value, e = .returned (.agg #[u0, u1, u2, u3, u4, u5, u6]) ∧ ResC w' u0 u1 u2 u3 u4 u5 u6 r ∧ OwnRes w.heap.size w'.heap.size w' (.agg #[u0, u1, u2, u3, u4, u5, u6]) r
def ResResC (f : FuncId) (g : Res → Res → Bool) : Prop := ∀ (w : World) (u0 u1 u2 u3 u4 u5 u6 v0 v1 v2 v3 v4 v5 v6 : Value) (r s : Res), ResFits r → ResFits s → ResC w u0 u1 u2 u3 u4 u5 u6 r → ResC w v0 v1 v2 v3 v4 v5 v6 s →
 Calls Try.prog f #[.agg #[u0, u1, u2, u3, u4, u5, u6], .agg #[v0, v1, v2, v3, v4, v5, v6]] w fun e w' => e = .returned (.bool (g r s)) ∧ Below w.heap.size w w'
def LpResC (f : FuncId) (g : P → Res → Bool) : Prop := ∀ (w : World) (x y z u0 u1 u2 u3 u4 u5 u6 : Value) (p : P) (r : Res), LpFits p → ResFits r → (Lit.int .i64 r.status).wf = true → LpC w x y z p → ResC w u0 u1 u2 u3 u4 u5 u6 r →
 Calls Try.prog f #[.agg #[x, y, z], .agg #[u0, u1, u2, u3, u4, u5, u6]] w fun e w' => e = .returned (.bool (g p r)) ∧ Below w.heap.size w w'
end Go.Proofs.Ytpjnjidbdpfdcaa

namespace Go.Proofs.Ytpjnjidbdpfdcaa
open Go.RowKit
open Ve (R)
open Lp (P)
def LpOk (p : P) : Prop := LpFits p
theorem lpOk {p : P} (h : lpN p ≤ 1048576) : LpOk p := lpFits h
theorem LpC.rg {w : World} {x y z : Value} {p : P} (h : LpC w x y z p) : Rg (fun w' => LpC w' x y z p) 0 w.heap.size w :=
 ⟨h, Nat.le_refl _, fun w' hs hk => by
  obtain ⟨a, b, c, c1, c2, c3, e1, e2, e3, hi⟩ := h
  exact ⟨a, b, c, c1, c2, c3, e1, e2, e3, LpIn.mono ⟨hi.mA.same fun k h => hk k (Nat.zero_le _) h, hi.mB.same fun k h => hk k (Nat.zero_le _) h, hi.mC.of_low fun k h => hk k (Nat.zero_le _) h⟩ hs⟩⟩
theorem OwnLP.size {lo hi : Nat} {w : World} {v : Value} {p : P} (h : OwnLP lo hi w v p) : hi ≤ w.heap.size := by
 obtain ⟨_, _, _, _, _, _, _, _, _, h4, _⟩ := h.ex
 exact h4
theorem OwnLP.reads_c {lo hi : Nat} {w : World} {x y z : Value} {p : P} (h : OwnLP lo hi w (.agg #[x, y, z]) p) : LpC w x y z p := by
 obtain ⟨a, b, c, c1, c2, c3, e, hi, hh⟩ := h.reads
 injection e with e
 have e1 : x = .slice a p.A.length c1 := by have := congrArg (fun q => q[0]?) e; simpa using this
 have e2 : y = .slice b p.B.length c2 := by have := congrArg (fun q => q[1]?) e; simpa using this
 have e3 : z = .slice c p.C.length c3 := by have := congrArg (fun q => q[2]?) e; simpa using this
 exact ⟨a, b, c, c1, c2, c3, e1, e2, e3, hi.mono hh⟩
def LpX (w : World) (x y z : Value) (p : P) : Prop := LpC w x y z p ∧ ∀ (b : Option Addr) (n c : Nat), y = .slice b n c → p.B.length ≤ c
theorem OwnLP.reads_x {lo hi : Nat} {w : World} {x y z : Value} {p : P} (h : OwnLP lo hi w (.agg #[x, y, z]) p) : LpX w x y z p := by
 refine ⟨h.reads_c, fun b n c e => ?_⟩
 obtain ⟨m1, m2, vA, vB, vC, e2, _, _, _, _, _, ⟨hB, _⟩, _⟩ := h
 injection e2 with e2
 have e3 : y = vB := by have := congrArg (fun q => q[1]?) e2; simpa using this
 subst e3
 obtain ⟨_, ⟨e4, h4⟩ | ⟨g, cap, cur, e4, _, _, hnc, _⟩⟩ := hB
 ·
  omega
 ·
  rw [e] at e4
  injection e4 with e5 e6 e7
  omega
theorem OwnLP.rg {lo hi : Nat} {w : World} {v : Value} {p : P} (h : OwnLP lo hi w v p) : Rg (fun w' => OwnLP lo hi w' v p) lo hi w := by
 refine ⟨h, h.size, fun w' hs hk => ?_⟩
 obtain ⟨m1, m2, vA, vB, vC, rfl, h1, h2, h3, h4, hA, ⟨hB, kB⟩, hC, kC⟩ := h
 exact ⟨m1, m2, vA, vB, vC, rfl, h1, h2, h3, Nat.le_trans h4 hs, hA.same fun k a1 a2 _ => hk k a1 (by omega), ⟨owns_same hB fun g hg => by have := World.ownsRow.lt hB g hg; have := kB g hg; exact hk g (by omega) (by omega), kB⟩,
  owns_same hC fun g hg => by have := World.ownsRow.lt hC g hg; have := kC g hg; exact hk g (by omega) (by omega), kC⟩
theorem eqLP_k {w : World} {x y z x' y' z' : Value} {p : P} (h : LpC w x y z p) (h' : LpC w x' y' z' p) (hf : LpOk p) :
  Calls Try.prog 9 #[.agg #[x, y, z], .agg #[x', y', z']] w fun e w' => e = .returned (.bool true) ∧ Below w.heap.size w w' := eqLP_c h h' hf
theorem markLP_k {lo hi : Nat} {w : World} {x y z : Value} {p : P} (h : OwnLP lo hi w (.agg #[x, y, z]) p) (hf : LpOk p) :
  Calls Try.prog 12 #[.agg #[x, y, z], .int .i64 1] w fun e w' => (∃ r : Int, e = .returned (.int .i64 r) ∧ 0 ≤ r) ∧ Turned lo hi w w' :=
 markLP lo hi _ p hf w h
end Go.Proofs.Ytpjnjidbdpfdcaa
