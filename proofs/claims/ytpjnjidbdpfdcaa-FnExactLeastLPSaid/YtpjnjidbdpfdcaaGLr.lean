/- The parts LpOpen, LpR, LpR2, LpR3. -/
import Derived.Test.YtpjnjidbdpfdcaaGLa
import Derived.Test.YtpjnjidbdpfdcaaNumOpen
import Derived.Test.YtpjnjidbdpfdcaaGVa
import Derived.Deep.Matrix
import Derived.Lib.SmallJoins
namespace Go.Proofs.Ytpjnjidbdpfdcaa
open Go.RowKit Go.Deep Go.ChangeShapes Go.WideShapes
open Ve (R)
open Lp (P)
theorem mat_open {H : Type} {enc : TypeId × Value → H} {W : World} {fuel : Nat} {v : Value} {x : DataW H × List MemPlace}
  (h : DataW.trod enc Try.prog W 0 (fun _ => true) true fuel 26 [v] = some x) : ∃ (a : Option Addr) (c : Nat) (L : List (List Int)), v = .slice a L.length c ∧ L.length ≤ 9223372036854775807 ∧ Lens L ∧ MatIn W.heap.size W a L := by
 rcases open_int_rows Try.underlying26 Try.underlying22 Try.underlying3 (by kernel_rfl) (by kernel_rfl) h with ⟨hcs, _⟩ | ⟨a, len, cap, A, L, C, Z, hcs, _, hl, hm, _, hr⟩
 ·
  simp at hcs
  subst hcs
  exact ⟨none, 0, [], rfl, by decide, fun k hk => by simp at hk, fun j hj => by simp at hj⟩
 ·
  simp at hcs
  subst hcs
  have hlen : ((List.range len).map fun r => (Z r).take (L r)).length = len := by simp
  have hrow : ∀ r, r < len → rw_ ((List.range len).map fun r => (Z r).take (L r)) r = (Z r).take (L r) := fun r hr => by simp [rw_, hr]
  unfold maxLen at hm
  refine ⟨some a, cap, (List.range len).map fun r => (Z r).take (L r), by rw [hlen], by rw [hlen]; omega, fun k hk => ?_, fun j hj => ?_⟩
  ·
   rw [hlen] at hk
   obtain ⟨_, r1, r2, r3, _⟩ := hr k (by omega)
   unfold maxLen at r2
   rw [hrow k hk, List.length_take]
   omega
  ·
   rw [hlen] at hj
   obtain ⟨r0, r1, r2, r3, r4, r5, r6⟩ := hr j (by omega)
   obtain ⟨z0, _⟩ := hr 0 (by omega)
   obtain ⟨b, o, rfl⟩ := plain_of z0
   rw [add_at] at r0
   rw [hrow j hj]
   refine ⟨b, o, A j, C j, rfl, block_lt_of_cell (a := ⟨b, o + j, none⟩) r0, ?_, nums_of (by omega) (fun e => by have := r5 e; omega) fun a' e c hc => (r6 a' e).2 c (by omega)⟩
   rw [r0, List.length_take]
   congr 2
   omega
theorem rats_open1 {H : Type} {enc : TypeId × Value → H} {W : World} {fuel : Nat} {v : Value} {x : DataW H × List MemPlace}
  (h : DataW.trod enc Try.prog W 0 (fun _ => true) true fuel 41 [v] = some x) : ∃ (a : Option Addr) (c : Nat) (l : List R), v = .slice a l.length c ∧ l.length ≤ 9223372036854775807 ∧ RatsIn W.heap.size W a l := by
 obtain ⟨a, len, c, e⟩ := Joins.slice_form Try.underlying41 h
 simp at e
 subst e
 obtain ⟨zs, rfl, h1, h2⟩ := rats_open h
 exact ⟨a, c, zs, rfl, h1, h2⟩
end Go.Proofs.Ytpjnjidbdpfdcaa

namespace Go.Proofs.Ytpjnjidbdpfdcaa
open Go.RowKit
open Ve (R)
open Lp (Res)

def resCells (s : Value) (x y z : Value) (n d pv : Value) : Array Value := #[s, x, y, z, n, d, pv]
/-! ### Results -/
structure ResIn (B : Nat) (w : World) (a b c : Option Addr) (r : Res) : Prop where
 mX : RatsIn B w a r.X
 mY : RatsIn B w b r.Y
 mR : RatsIn B w c r.ray
theorem ResIn.below {B : Nat} {w w' : World} {a b c : Option Addr} {p : Res} (h : ResIn B w a b c p) (hb : Below B w w') : ResIn B w' a b c p := ⟨h.mX.below hb, h.mY.below hb, h.mR.below hb⟩
theorem ResIn.mono {B B' : Nat} {w : World} {a b c : Option Addr} {p : Res} (h : ResIn B w a b c p) (hB : B ≤ B') : ResIn B' w a b c p := ⟨h.mX.mono hB, h.mY.mono hB, h.mR.mono hB⟩
theorem ResIn.drewN {B : Nat} {w : World} {a b c : Option Addr} {p : Res} (h : ResIn B w a b c p) (d : Nat) : ResIn B (w.drewN d) a b c p := ⟨h.mX, h.mY, h.mR⟩
def resN (r : Res) : Nat := r.X.length + r.Y.length + r.ray.length
def ResLens (r : Res) : Prop := r.X.length ≤ 9223372036854775807 ∧ r.Y.length ≤ 9223372036854775807 ∧ r.ray.length ≤ 9223372036854775807
def resV (a b c : Option Addr) (c1 c2 c3 : Nat) (r : Res) : Value :=
 .agg #[.int .i64 r.status, .slice a r.X.length c1, .slice b r.Y.length c2, .slice c r.ray.length c3, .int .i64 r.value.1, .int .i64 r.value.2, .int .i64 r.pivots]
theorem array7 {α : Type} {cs : Array α} (h : cs.size = 7) : ∃ c0 c1 c2 c3 c4 c5 c6, cs = #[c0, c1, c2, c3, c4, c5, c6] := by
 obtain ⟨l⟩ := cs
 match l, h with
 | [c0, c1, c2, c3, c4, c5, c6], _ => exact ⟨c0, c1, c2, c3, c4, c5, c6, rfl⟩
end Go.Proofs.Ytpjnjidbdpfdcaa

namespace Go.Proofs.Ytpjnjidbdpfdcaa
open Go.RowKit
open Ve (R)
open Lp (Res)
structure ResFits (r : Res) : Prop where
 X : r.X.length ≤ 1048576
 Y : r.Y.length ≤ 1048576
 R : r.ray.length ≤ 1048576
 N : resN r ≤ 1048576
theorem resFits {r : Res} (h : resN r ≤ 1048576) : ResFits r := by
 have h' := h
 unfold resN at h'
 exact ⟨by omega, by omega, by omega, h⟩
end Go.Proofs.Ytpjnjidbdpfdcaa

namespace Go.Proofs.Ytpjnjidbdpfdcaa
open Go.RowKit
open Ve (R)
open Lp (Res)
structure OwnRes (lo hi : Nat) (w : World) (v : Value) (r : Res) : Prop where
 ex : ∃ (m1 m2 : Nat) (a b c : Option Addr) (c1 c2 c3 : Nat), v = resV a b c c1 c2 c3 r ∧ lo ≤ m1 ∧ m1 ≤ m2 ∧ m2 ≤ hi ∧ hi ≤ w.heap.size ∧ (OwnRats lo w (.slice a r.X.length c1) r.X ∧ ∀ g, (Value.slice a r.X.length c1).ownBlock = some g → g < m1) ∧
  (OwnRats m1 w (.slice b r.Y.length c2) r.Y ∧ ∀ g, (Value.slice b r.Y.length c2).ownBlock = some g → g < m2) ∧ (OwnRats m2 w (.slice c r.ray.length c3) r.ray ∧ ∀ g, (Value.slice c r.ray.length c3).ownBlock = some g → g < hi)
theorem OwnRes.below {lo hi : Nat} {w w' : World} {v : Value} {r : Res} (h : OwnRes lo hi w v r) (hb : Below w.heap.size w w') : OwnRes lo hi w' v r := by
 obtain ⟨m1, m2, a, b, c, c1, c2, c3, rfl, h1, h2, h3, h4, ⟨hA, kA⟩, ⟨hB, kB⟩, hC, kC⟩ := h
 exact ⟨m1, m2, a, b, c, c1, c2, c3, rfl, h1, h2, h3, Nat.le_trans h4 hb.size, ⟨hA.below hb, kA⟩, ⟨hB.below hb, kB⟩, hC.below hb, kC⟩
theorem OwnRats.readsTo {lo hi : Nat} {w : World} {a : Option Addr} {c : Nat} {xs : List R} (h : OwnRats lo w (.slice a xs.length c) xs) (hb : ∀ g, (Value.slice a xs.length c).ownBlock = some g → g < hi) : RatsIn hi w a xs := by
 obtain ⟨a', c', e, h1, _, _⟩ := own_rats h
 obtain ⟨rfl, rfl⟩ : a = a' ∧ c = c' := by injection e with e1 e2 e3; exact ⟨e1, e3⟩
 exact h1.narrow fun q hq => hb q.block (by rw [hq]; rfl)
theorem OwnRes.reads {lo hi : Nat} {w : World} {v : Value} {r : Res} (h : OwnRes lo hi w v r) : ∃ (a b c : Option Addr) (c1 c2 c3 : Nat), v = resV a b c c1 c2 c3 r ∧ ResIn hi w a b c r ∧ hi ≤ w.heap.size := by
 obtain ⟨m1, m2, a, b, c, c1, c2, c3, rfl, h1, h2, h3, h4, ⟨hA, kA⟩, ⟨hB, kB⟩, hC, kC⟩ := h
 exact ⟨a, b, c, c1, c2, c3, rfl, ⟨(hA.readsTo kA).mono (by omega), (hB.readsTo kB).mono (by omega), hC.readsTo kC⟩, h4⟩
end Go.Proofs.Ytpjnjidbdpfdcaa
