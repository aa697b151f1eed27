/- The parts LpOpen, LpR, LpR2, LpR3. -/
import Derived.Test.YtmjmjilpcekngaaGreatGLa
import Derived.Test.YtmjmjilpcekngaaGreatNumOpen
import Derived.Test.YtmjmjilpcekngaaGreatGVa
import Derived.Deep.Matrix
import Derived.Lib.SmallJoins
set_option maxRecDepth 100000
namespace Go.Proofs.YtmjmjilpcekngaaGreat
open Go.RowKit Go.Deep Go.ChangeShapes Go.WideShapes
open Ve (R)
open Lp (P)
theorem mat_open {H : Type} {enc : TypeId × Value → H} {W : World} {fuel : Nat} {v : Value} {x : DataW H × List MemPlace}
  (h : DataW.trod enc Tryz.prog W 0 (fun _ => true) true fuel 24 [v] = some x) : ∃ (a : Option Addr) (c : Nat) (L : List (List Int)), v = .slice a L.length c ∧ L.length ≤ 9223372036854775807 ∧ Lens L ∧ MatIn W.heap.size W a L := by
 rcases open_int_rows Tryz.underlying24 Tryz.underlying25 Tryz.underlying3 (by kernel_rfl) (by kernel_rfl) h with ⟨hcs, _⟩ | ⟨a, len, cap, A, L, C, Z, hcs, _, hl, hm, _, hr⟩
 ·
  simp at hcs
  subst hcs
  exact ⟨none, 0, [], rfl, by decide, fun k hk => by simp at hk, fun j hj => by simp at hj⟩
 ·
  simp at hcs
  subst hcs
  have hlen : ((List.range len).map fun r => (Z r).take (L r)).length = len := by simp
  have hrow : ∀ r, r < len → rw_ ((List.range len).map fun r => (Z r).take (L r)) r = (Z r).take (L r) := fun r hr => by simp [rw_, hr]
  unfold maxLen at hm
  refine ⟨some a, cap, (List.range len).map fun r => (Z r).take (L r), by rw [hlen], by rw [hlen]; omega, fun k hk => ?_, fun j hj => ?_⟩
  ·
   rw [hlen] at hk
   obtain ⟨_, r1, r2, r3, _⟩ := hr k (by omega)
   unfold maxLen at r2
   rw [hrow k hk, List.length_take]
   omega
  ·
   rw [hlen] at hj
   obtain ⟨r0, r1, r2, r3, r4, r5, r6⟩ := hr j (by omega)
   obtain ⟨z0, _⟩ := hr 0 (by omega)
   obtain ⟨b, o, rfl⟩ := plain_of z0
   rw [add_at] at r0
   rw [hrow j hj]
   refine ⟨b, o, A j, C j, rfl, block_lt_of_cell (a := ⟨b, o + j, none⟩) r0, ?_, nums_of (by omega) (fun e => by have := r5 e; omega) fun a' e c hc => (r6 a' e).2 c (by omega)⟩
   rw [r0, List.length_take]
   congr 2
   omega
theorem rats_open1 {H : Type} {enc : TypeId × Value → H} {W : World} {fuel : Nat} {v : Value} {x : DataW H × List MemPlace}
  (h : DataW.trod enc Tryz.prog W 0 (fun _ => true) true fuel 42 [v] = some x) : ∃ (a : Option Addr) (c : Nat) (l : List R), v = .slice a l.length c ∧ l.length ≤ 9223372036854775807 ∧ RatsIn W.heap.size W a l := by
 obtain ⟨a, len, c, e⟩ := Joins.slice_form Tryz.underlying42 h
 simp at e
 subst e
 obtain ⟨zs, rfl, h1, h2⟩ := rats_open h
 exact ⟨a, c, zs, rfl, h1, h2⟩
theorem lp_open {H : Type} {enc : TypeId × Value → H} {W : World} {base : Nat} {v : Value} {d : DataW H} {ps : List MemPlace} (hv : Value.okWide Tryz.prog W .any base 44 v)
  (h : DataW.Trod enc Tryz.prog W 0 (fun _ => true) true 44 v d ps) :
  ∃ (a b c : Option Addr) (c1 c2 c3 : Nat) (p : P), v = .agg #[.slice a p.A.length c1, .slice b p.B.length c2, .slice c p.C.length c3] ∧ LpLens p ∧ LpIn W.heap.size W a b c p := by
 obtain ⟨v0, v1, v2, y0, y1, y2, n, rfl, _, _, h0, h1, h2⟩ := Joins.open_agg3 Tryz.underlying44 (by kernel_rfl) (by kernel_rfl) hv h
 obtain ⟨a, c1, L, rfl, l1, l2, m⟩ := mat_open h0
 obtain ⟨b, c2, l, rfl, l3, m2⟩ := ints_open h1
 obtain ⟨c, c3, z, rfl, l4, m3⟩ := rats_open1 h2
 exact ⟨a, b, c, c1, c2, c3, ⟨L, l, z⟩, rfl, ⟨l1, l2, l3, l4⟩, ⟨m, m2, m3⟩⟩
end Go.Proofs.YtmjmjilpcekngaaGreat

namespace Go.Proofs.YtmjmjilpcekngaaGreat
open Go.RowKit
open Ve (R)
open Lp (Res)

def resCells (s : Value) (x y z : Value) (n d pv : Value) : Array Value := #[s, x, y, z, n, d, pv]
/-! ### Results -/
structure ResIn (B : Nat) (w : World) (a b c : Option Addr) (r : Res) : Prop where
 mX : RatsIn B w a r.X
 mY : RatsIn B w b r.Y
 mR : RatsIn B w c r.ray
theorem ResIn.below {B : Nat} {w w' : World} {a b c : Option Addr} {p : Res} (h : ResIn B w a b c p) (hb : Below B w w') : ResIn B w' a b c p := ⟨h.mX.below hb, h.mY.below hb, h.mR.below hb⟩
theorem ResIn.mono {B B' : Nat} {w : World} {a b c : Option Addr} {p : Res} (h : ResIn B w a b c p) (hB : B ≤ B') : ResIn B' w a b c p := ⟨h.mX.mono hB, h.mY.mono hB, h.mR.mono hB⟩
theorem ResIn.drewN {B : Nat} {w : World} {a b c : Option Addr} {p : Res} (h : ResIn B w a b c p) (d : Nat) : ResIn B (w.drewN d) a b c p := ⟨h.mX, h.mY, h.mR⟩
def resN (r : Res) : Nat := r.X.length + r.Y.length + r.ray.length
def ResLens (r : Res) : Prop := r.X.length ≤ 9223372036854775807 ∧ r.Y.length ≤ 9223372036854775807 ∧ r.ray.length ≤ 9223372036854775807
def resV (a b c : Option Addr) (c1 c2 c3 : Nat) (r : Res) : Value :=
 .agg #[.int .i64 r.status, .slice a r.X.length c1, .slice b r.Y.length c2, .slice c r.ray.length c3, .int .i64 r.value.1, .int .i64 r.value.2, .int .i64 r.pivots]
end Go.Proofs.YtmjmjilpcekngaaGreat

namespace Go.Proofs.YtmjmjilpcekngaaGreat
open Go.RowKit
open Ve (R)
open Lp (Res)
structure ResFits (r : Res) : Prop where
 X : r.X.length ≤ 1048576
 Y : r.Y.length ≤ 1048576
 R : r.ray.length ≤ 1048576
 N : resN r ≤ 1048576
theorem resFits {r : Res} (h : resN r ≤ 1048576) : ResFits r := by
 have h' := h
 unfold resN at h'
 exact ⟨by omega, by omega, by omega, h⟩
set_option maxHeartbeats 1000000 in
theorem eqRes (B : Nat) (a b c a' b' c' : Option Addr) (c1 c2 c3 d1 d2 d3 : Nat) (r : Res) (hn : ResFits r) (w : World) (hBw : B ≤ w.heap.size) (hz : ResIn B w a b c r) (hy : ResIn B w a' b' c' r) :
  Calls Tryz.prog 19 #[resV a b c c1 c2 c3 r, resV a' b' c' d1 d2 d3 r] w fun e w' => e = .returned (.bool true) ∧ Below w.heap.size w w' := by
 obtain ⟨n1, n2, n3, _⟩ := hn
 obtain ⟨st, X, Y, Z, ⟨nu, de⟩, pv⟩ := r
 obtain ⟨x1, x2, x3⟩ := hz.mono hBw
 obtain ⟨y1, y2, y3⟩ := hy.mono hBw
 clear hz hy
 simp only at n1 n2 n3 x1 x2 x3 y1 y2 y3
 unfold resV
 simp only
 have hb := ((Below.refl w.heap.size w).alloc (Nat.le_refl _) (.cells #[.int .i64 st, .slice a X.length c1, .slice b Y.length c2, .slice c Z.length c3, .int .i64 nu, .int .i64 de, .int .i64 pv] 32)).alloc (by rw [size1]; omega) (.cells #[.int .i64 st, .slice a' X.length d1, .slice b' Y.length d2, .slice c' Z.length d3, .int .i64 nu, .int .i64 de, .int .i64 pv] 32)
 have hx := (CellsAt.new w #[.int .i64 st, .slice a X.length c1, .slice b Y.length c2, .slice c Z.length c3, .int .i64 nu, .int .i64 de, .int .i64 pv] 32).more (.cells #[.int .i64 st, .slice a' X.length d1, .slice b' Y.length d2, .slice c' Z.length d3, .int .i64 nu, .int .i64 de, .int .i64 pv] 32)
 have hx' := CellsAt.new (w.alloc (.cells #[.int .i64 st, .slice a X.length c1, .slice b Y.length c2, .slice c Z.length c3, .int .i64 nu, .int .i64 de, .int .i64 pv] 32)) #[.int .i64 st, .slice a' X.length d1, .slice b' Y.length d2, .slice c' Z.length d3, .int .i64 nu, .int .i64 de, .int .i64 pv] 32
 rw [size1] at hx'
 have X1 := zH (x1.below hb)
 have X2 := zH (x2.below hb)
 have X3 := zH (x3.below hb)
 have Y1 := zH (y1.below hb)
 have Y2 := zH (y2.below hb)
 have Y3 := zH (y3.below hb)
 have Hx := zH hx
 have Hx' := zH hx'
 have Hb := zH hb
 clear x1 x2 x3 y1 y2 y3 hx hx' hb
 go_enter Tryz.func19, Tryz.ntmps19
 go_wp2_with fail
 refine (laws_eqRatS w.heap.size a a' c1 d1 X (by omega) _ Hb.out.size X1.out Y1.out).mono ?_
 rintro e w1 ⟨rfl, k1⟩
 have hx1 := Hx.out.below k1
 have hx1' := Hx'.out.below k1
 obtain ⟨⟨r0, r1, r2, r3, r4, r5, r6⟩, _⟩ := seven hx1
 obtain ⟨⟨s0, s1, s2, s3, s4, s5, s6⟩, _⟩ := seven hx1'
 have Hb1 := zH (Hb.out.trans (k1.mono Hb.out.size))
 have Hk1 := zH (k1.mono Hb.out.size)
 have Hx1 := zH hx1
 have Hx1' := zH hx1'
 clear hx1 hx1' k1
 go_wp2_with fail
 refine (laws_eqRatS w.heap.size b b' c2 d2 Y (by omega) _ Hb1.out.size (X2.out.below Hk1.out) (Y2.out.below Hk1.out)).mono ?_
 rintro e w2 ⟨rfl, k1⟩
 have hx1 := Hx1.out.below k1
 have hx1' := Hx1'.out.below k1
 clear r0 r1 r2 r3 r4 r5 r6 s0 s1 s2 s3 s4 s5 s6
 obtain ⟨⟨r0, r1, r2, r3, r4, r5, r6⟩, _⟩ := seven hx1
 obtain ⟨⟨s0, s1, s2, s3, s4, s5, s6⟩, _⟩ := seven hx1'
 have Hb2 := zH (Hb1.out.trans (k1.mono Hb1.out.size))
 have Hk2 := zH (Hk1.out.trans (k1.mono Hb1.out.size))
 have Hx2 := zH hx1
 have Hx2' := zH hx1'
 clear hx1 hx1' k1
 go_wp2_with fail
 refine (laws_eqRatS w.heap.size c c' c3 d3 Z (by omega) _ Hb2.out.size (X3.out.below Hk2.out) (Y3.out.below Hk2.out)).mono ?_
 rintro e w3 ⟨rfl, k1⟩
 have hx1 := Hx2.out.below k1
 have hx1' := Hx2'.out.below k1
 clear r0 r1 r2 r3 r4 r5 r6 s0 s1 s2 s3 s4 s5 s6
 obtain ⟨⟨r0, r1, r2, r3, r4, r5, r6⟩, _⟩ := seven hx1
 obtain ⟨⟨s0, s1, s2, s3, s4, s5, s6⟩, _⟩ := seven hx1'
 have Hb3 := zH (Hb2.out.trans (k1.mono Hb2.out.size))
 have Hx3 := zH hx1
 have Hx3' := zH hx1'
 clear hx1 hx1' k1
 go_wp2_with fail
 refine (laws_eqRat nu de _).mono ?_
 rintro e w4 ⟨rfl, k1⟩
 have hx1 := Hx3.out.below k1
 have hx1' := Hx3'.out.below k1
 clear r0 r1 r2 r3 r4 r5 r6 s0 s1 s2 s3 s4 s5 s6
 obtain ⟨⟨r0, r1, r2, r3, r4, r5, r6⟩, _⟩ := seven hx1
 obtain ⟨⟨s0, s1, s2, s3, s4, s5, s6⟩, _⟩ := seven hx1'
 have Hb4 := zH (Hb3.out.trans (k1.mono Hb3.out.size))
 clear hx1 hx1' k1
 go_wp2_with fail
 go_ret
 exact ⟨rfl, Hb4.out⟩
end Go.Proofs.YtmjmjilpcekngaaGreat

namespace Go.Proofs.YtmjmjilpcekngaaGreat
open Go.RowKit
open Ve (R)
open Lp (Res)
structure OwnRes (lo hi : Nat) (w : World) (v : Value) (r : Res) : Prop where
 ex : ∃ (m1 m2 : Nat) (a b c : Option Addr) (c1 c2 c3 : Nat), v = resV a b c c1 c2 c3 r ∧ lo ≤ m1 ∧ m1 ≤ m2 ∧ m2 ≤ hi ∧ hi ≤ w.heap.size ∧ (OwnRats lo w (.slice a r.X.length c1) r.X ∧ ∀ g, (Value.slice a r.X.length c1).ownBlock = some g → g < m1) ∧
  (OwnRats m1 w (.slice b r.Y.length c2) r.Y ∧ ∀ g, (Value.slice b r.Y.length c2).ownBlock = some g → g < m2) ∧ (OwnRats m2 w (.slice c r.ray.length c3) r.ray ∧ ∀ g, (Value.slice c r.ray.length c3).ownBlock = some g → g < hi)
theorem OwnRes.below {lo hi : Nat} {w w' : World} {v : Value} {r : Res} (h : OwnRes lo hi w v r) (hb : Below w.heap.size w w') : OwnRes lo hi w' v r := by
 obtain ⟨m1, m2, a, b, c, c1, c2, c3, rfl, h1, h2, h3, h4, ⟨hA, kA⟩, ⟨hB, kB⟩, hC, kC⟩ := h
 exact ⟨m1, m2, a, b, c, c1, c2, c3, rfl, h1, h2, h3, Nat.le_trans h4 hb.size, ⟨hA.below hb, kA⟩, ⟨hB.below hb, kB⟩, hC.below hb, kC⟩
theorem OwnRats.readsTo {lo hi : Nat} {w : World} {a : Option Addr} {c : Nat} {xs : List R} (h : OwnRats lo w (.slice a xs.length c) xs) (hb : ∀ g, (Value.slice a xs.length c).ownBlock = some g → g < hi) : RatsIn hi w a xs := by
 obtain ⟨a', c', e, h1, _, _⟩ := own_rats h
 obtain ⟨rfl, rfl⟩ : a = a' ∧ c = c' := by injection e with e1 e2 e3; exact ⟨e1, e3⟩
 exact h1.narrow fun q hq => hb q.block (by rw [hq]; rfl)
theorem OwnRes.reads {lo hi : Nat} {w : World} {v : Value} {r : Res} (h : OwnRes lo hi w v r) : ∃ (a b c : Option Addr) (c1 c2 c3 : Nat), v = resV a b c c1 c2 c3 r ∧ ResIn hi w a b c r ∧ hi ≤ w.heap.size := by
 obtain ⟨m1, m2, a, b, c, c1, c2, c3, rfl, h1, h2, h3, h4, ⟨hA, kA⟩, ⟨hB, kB⟩, hC, kC⟩ := h
 exact ⟨a, b, c, c1, c2, c3, rfl, ⟨(hA.readsTo kA).mono (by omega), (hB.readsTo kB).mono (by omega), hC.readsTo kC⟩, h4⟩
end Go.Proofs.YtmjmjilpcekngaaGreat
