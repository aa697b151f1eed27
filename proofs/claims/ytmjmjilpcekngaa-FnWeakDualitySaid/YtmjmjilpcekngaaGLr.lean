/- The parts LpOpen, LpR, LpR2, LpR3. -/
import Derived.Test.YtmjmjilpcekngaaGLa
import Derived.Test.YtmjmjilpcekngaaNumOpen
import Derived.Test.YtmjmjilpcekngaaGVa
import Derived.Deep.Matrix
import Derived.Lib.SmallJoins
set_option maxRecDepth 100000
namespace Go.Proofs.Ytmjmjilpcekngaa
open Go.RowKit Go.Deep Go.ChangeShapes Go.WideShapes
open Ve (R)
open Lp (P)
theorem mat_open {H : Type} {enc : TypeId × Value → H} {W : World} {fuel : Nat} {v : Value} {x : DataW H × List MemPlace}
  (h : DataW.trod enc Try.prog W 0 (fun _ => true) true fuel 24 [v] = some x) : ∃ (a : Option Addr) (c : Nat) (L : List (List Int)), v = .slice a L.length c ∧ L.length ≤ 9223372036854775807 ∧ Lens L ∧ MatIn W.heap.size W a L := by
 rcases open_int_rows Try.underlying24 Try.underlying25 Try.underlying3 (by kernel_rfl) (by kernel_rfl) h with ⟨hcs, _⟩ | ⟨a, len, cap, A, L, C, Z, hcs, _, hl, hm, _, hr⟩
 ·
  simp at hcs
  subst hcs
  exact ⟨none, 0, [], rfl, by decide, fun k hk => by simp at hk, fun j hj => by simp at hj⟩
 ·
  simp at hcs
  subst hcs
  have hlen : ((List.range len).map fun r => (Z r).take (L r)).length = len := by simp
  have hrow : ∀ r, r < len → rw_ ((List.range len).map fun r => (Z r).take (L r)) r = (Z r).take (L r) := fun r hr => by simp [rw_, hr]
  unfold maxLen at hm
  refine ⟨some a, cap, (List.range len).map fun r => (Z r).take (L r), by rw [hlen], by rw [hlen]; omega, fun k hk => ?_, fun j hj => ?_⟩
  ·
   rw [hlen] at hk
   obtain ⟨_, r1, r2, r3, _⟩ := hr k (by omega)
   unfold maxLen at r2
   rw [hrow k hk, List.length_take]
   omega
  ·
   rw [hlen] at hj
   obtain ⟨r0, r1, r2, r3, r4, r5, r6⟩ := hr j (by omega)
   obtain ⟨z0, _⟩ := hr 0 (by omega)
   obtain ⟨b, o, rfl⟩ := plain_of z0
   rw [add_at] at r0
   rw [hrow j hj]
   refine ⟨b, o, A j, C j, rfl, block_lt_of_cell (a := ⟨b, o + j, none⟩) r0, ?_, nums_of (by omega) (fun e => by have := r5 e; omega) fun a' e c hc => (r6 a' e).2 c (by omega)⟩
   rw [r0, List.length_take]
   congr 2
   omega
theorem rats_open1 {H : Type} {enc : TypeId × Value → H} {W : World} {fuel : Nat} {v : Value} {x : DataW H × List MemPlace}
  (h : DataW.trod enc Try.prog W 0 (fun _ => true) true fuel 43 [v] = some x) : ∃ (a : Option Addr) (c : Nat) (l : List R), v = .slice a l.length c ∧ l.length ≤ 9223372036854775807 ∧ RatsIn W.heap.size W a l := by
 obtain ⟨a, len, c, e⟩ := Joins.slice_form Try.underlying43 h
 simp at e
 subst e
 obtain ⟨zs, rfl, h1, h2⟩ := rats_open h
 exact ⟨a, c, zs, rfl, h1, h2⟩
theorem lp_open {H : Type} {enc : TypeId × Value → H} {W : World} {base : Nat} {v : Value} {d : DataW H} {ps : List MemPlace} (hv : Value.okWide Try.prog W .any base 45 v)
  (h : DataW.Trod enc Try.prog W 0 (fun _ => true) true 45 v d ps) :
  ∃ (a b c : Option Addr) (c1 c2 c3 : Nat) (p : P), v = .agg #[.slice a p.A.length c1, .slice b p.B.length c2, .slice c p.C.length c3] ∧ LpLens p ∧ LpIn W.heap.size W a b c p := by
 obtain ⟨v0, v1, v2, y0, y1, y2, n, rfl, _, _, h0, h1, h2⟩ := Joins.open_agg3 Try.underlying45 (by kernel_rfl) (by kernel_rfl) hv h
 obtain ⟨a, c1, L, rfl, l1, l2, m⟩ := mat_open h0
 obtain ⟨b, c2, l, rfl, l3, m2⟩ := ints_open h1
 obtain ⟨c, c3, z, rfl, l4, m3⟩ := rats_open1 h2
 exact ⟨a, b, c, c1, c2, c3, ⟨L, l, z⟩, rfl, ⟨l1, l2, l3, l4⟩, ⟨m, m2, m3⟩⟩
end Go.Proofs.Ytmjmjilpcekngaa

namespace Go.Proofs.Ytmjmjilpcekngaa
open Go.RowKit
open Ve (R)
open Lp (Res)

def resCells (s : Value) (x y z : Value) (n d pv : Value) : Array Value := #[s, x, y, z, n, d, pv]
/-! ### Results -/
structure ResIn (B : Nat) (w : World) (a b c : Option Addr) (r : Res) : Prop where
 mX : RatsIn B w a r.X
 mY : RatsIn B w b r.Y
 mR : RatsIn B w c r.ray
theorem ResIn.below {B : Nat} {w w' : World} {a b c : Option Addr} {p : Res} (h : ResIn B w a b c p) (hb : Below B w w') : ResIn B w' a b c p := ⟨h.mX.below hb, h.mY.below hb, h.mR.below hb⟩
theorem ResIn.mono {B B' : Nat} {w : World} {a b c : Option Addr} {p : Res} (h : ResIn B w a b c p) (hB : B ≤ B') : ResIn B' w a b c p := ⟨h.mX.mono hB, h.mY.mono hB, h.mR.mono hB⟩
theorem ResIn.drewN {B : Nat} {w : World} {a b c : Option Addr} {p : Res} (h : ResIn B w a b c p) (d : Nat) : ResIn B (w.drewN d) a b c p := ⟨h.mX, h.mY, h.mR⟩
def resN (r : Res) : Nat := r.X.length + r.Y.length + r.ray.length
def ResLens (r : Res) : Prop := r.X.length ≤ 9223372036854775807 ∧ r.Y.length ≤ 9223372036854775807 ∧ r.ray.length ≤ 9223372036854775807
def resV (a b c : Option Addr) (c1 c2 c3 : Nat) (r : Res) : Value :=
 .agg #[.int .i64 r.status, .slice a r.X.length c1, .slice b r.Y.length c2, .slice c r.ray.length c3, .int .i64 r.value.1, .int .i64 r.value.2, .int .i64 r.pivots]
theorem array7 {α : Type} {cs : Array α} (h : cs.size = 7) : ∃ c0 c1 c2 c3 c4 c5 c6, cs = #[c0, c1, c2, c3, c4, c5, c6] := by
 obtain ⟨l⟩ := cs
 match l, h with
 | [c0, c1, c2, c3, c4, c5, c6], _ => exact ⟨c0, c1, c2, c3, c4, c5, c6, rfl⟩
open Go.ChangeShapes Go.WideShapes Go.ChangeAt in
set_option maxHeartbeats 1000000 in
theorem res_open {H : Type} {enc : TypeId × Value → H} {W : World} {base : Nat} {v : Value} {d : DataW H} {ps : List MemPlace} (hv : Value.okWide Try.prog W .any base 55 v)
  (h : DataW.Trod enc Try.prog W 0 (fun _ => true) true 55 v d ps) :
  ∃ (a b c : Option Addr) (c1 c2 c3 : Nat) (r : Res), v = resV a b c c1 c2 c3 r ∧ ResLens r ∧ ResIn W.heap.size W a b c r ∧ (Lit.int .i64 r.status).wf = true ∧ (Lit.int .i64 r.pivots).wf = true := by
 obtain ⟨cs, rfl, hsz⟩ := okWide_struct Try.underlying55 hv
 obtain ⟨c0, c1, c2, c3, c4, c5, c6, rfl⟩ := array7 (hsz.trans (by kernel_rfl))
 obtain ⟨fuel, hf⟩ := h
 obtain ⟨xs, n, _, _, hl, hlen, hg⟩ := DataW.trod_struct Try.underlying55 hf
 match xs, hlen with
 | [y0, y1, y2, y3, y4, y5], _ =>
  have g0 := hg 0 _ rfl
  have g1 := hg 1 _ rfl
  have g2 := hg 2 _ rfl
  have g3 := hg 3 _ rfl
  have g4 := hg 4 _ rfl
  have g5 := hg 5 _ rfl
  have ki : Try.prog.cellsOf 3 = 1 := by kernel_rfl
  have ks : Try.prog.cellsOf 43 = 1 := by kernel_rfl
  have kr : Try.prog.cellsOf 53 = 2 := by kernel_rfl
  have e0 : DataW.trod enc Try.prog W 0 (fun _ => true) true n 3 [c0] = some y0 := by simpa [Value.cells, ki] using g0
  have e1 : DataW.trod enc Try.prog W 0 (fun _ => true) true n 43 [c1] = some y1 := by simpa [Value.cells, ks] using g1
  have e2 : DataW.trod enc Try.prog W 0 (fun _ => true) true n 43 [c2] = some y2 := by simpa [Value.cells, ks] using g2
  have e3 : DataW.trod enc Try.prog W 0 (fun _ => true) true n 43 [c3] = some y3 := by simpa [Value.cells, ks] using g3
  have e4 : DataW.trod enc Try.prog W 0 (fun _ => true) true n 53 [c4, c5] = some y4 := by simpa [Value.cells, kr] using g4
  have e5 : DataW.trod enc Try.prog W 0 (fun _ => true) true n 3 [c6] = some y5 := by simpa [Value.cells, ki] using g5
  clear g0 g1 g2 g3 g4 g5 hg hf hl hlen hsz hv
  obtain ⟨s, a0, _, ws⟩ := DataW.trod_int Try.underlying3 e0
  obtain ⟨pv, a6, _, wp⟩ := DataW.trod_int Try.underlying3 e5
  obtain ⟨z0, z1, m, _, _, q0, q1⟩ := trod_struct2 Try.underlying53 e4
  have f0 : DataW.trod enc Try.prog W 0 (fun _ => true) true m 3 [c4] = some z0 := by simpa [Value.cells, ki] using q0
  have f1 : DataW.trod enc Try.prog W 0 (fun _ => true) true m 3 [c5] = some z1 := by simpa [Value.cells, ki] using q1
  obtain ⟨nu, b4, _, _⟩ := DataW.trod_int Try.underlying3 f0
  obtain ⟨de, b5, _, _⟩ := DataW.trod_int Try.underlying3 f1
  simp only [List.cons.injEq, and_true] at a0 a6 b4 b5
  subst a0 a6 b4 b5
  obtain ⟨a, k1, X, rfl, l1, m1⟩ := rats_open1 e1
  obtain ⟨b, k2, Y, rfl, l2, m2⟩ := rats_open1 e2
  obtain ⟨c, k3, Z, rfl, l3, m3⟩ := rats_open1 e3
  exact ⟨a, b, c, k1, k2, k3, ⟨s, X, Y, Z, (nu, de), pv⟩, rfl, ⟨l1, l2, l3⟩, ⟨m1, m2, m3⟩, ws, wp⟩
end Go.Proofs.Ytmjmjilpcekngaa

namespace Go.Proofs.Ytmjmjilpcekngaa
open Go.RowKit
open Ve (R)
open Lp (Res)
set_option maxHeartbeats 1000000 in
theorem szRes (a b c : Option Addr) (c1 c2 c3 : Nat) (r : Res) (left : Int) (hn : ResLens r) (hl0 : 0 ≤ left) (hl1 : left ≤ 1048576) (w : World) :
  Calls Try.prog 23 #[resV a b c c1 c2 c3 r, .int .i64 left] w
   fun e w' => ∃ q : Int, e = .returned (.int .i64 q) ∧ -1 ≤ q ∧ q ≤ 1048576 ∧ (0 ≤ q → (resN r : Int) + q = left) ∧ Below w.heap.size w w' := by
 obtain ⟨n1, n2, n3⟩ := hn
 obtain ⟨st, X, Y, Z, ⟨nu, de⟩, pv⟩ := r
 simp only at n1 n2 n3
 unfold resV resN
 simp only
 have Hb := zH ((Below.refl w.heap.size w).alloc (Nat.le_refl _) (.cells #[.int .i64 st, .slice a X.length c1, .slice b Y.length c2, .slice c Z.length c3, .int .i64 nu, .int .i64 de, .int .i64 pv] 55))
 go_enter Try.func23, Try.ntmps23
 go_wp2_with fail
 refine (szR a X.length c1 left n1 hl0 hl1 _).mono ?_
 rintro e w1 ⟨r, rfl, hr0, hr1, hr2, rfl⟩
 by_cases hneg : r < 0
 ·
  have hb2 : decide (r < 0) = true := by rw [decide_eq_true_iff]; exact hneg
  go_wp2_with fail
  go_ret
  exact ⟨-1, rfl, by omega, by omega, fun h => by omega, Hb.out⟩
 ·
  have hb2 : decide (r < 0) = false := by rw [decide_eq_false_iff_not]; exact hneg
  go_wp2_with fail
  refine (szR b Y.length c2 r n2 (by omega) hr1 _).mono ?_
  rintro e w1 ⟨s, rfl, hs0, hs1, hs2, rfl⟩
  by_cases hneg2 : s < 0
  ·
   have hb3 : decide (s < 0) = true := by rw [decide_eq_true_iff]; exact hneg2
   go_wp2_with fail
   go_ret
   exact ⟨-1, rfl, by omega, by omega, fun h => by omega, Hb.out⟩
  ·
   have hb3 : decide (s < 0) = false := by rw [decide_eq_false_iff_not]; exact hneg2
   go_wp2_with fail
   refine (szR c Z.length c3 s n3 (by omega) hs1 _).mono ?_
   rintro e w1 ⟨t, rfl, ht0, ht1, ht2, rfl⟩
   by_cases hneg3 : t < 0
   ·
    have hb4 : decide (t < 0) = true := by rw [decide_eq_true_iff]; exact hneg3
    go_wp2_with fail
    go_ret
    exact ⟨-1, rfl, by omega, by omega, fun h => by omega, Hb.out⟩
   ·
    have hb4 : decide (t < 0) = false := by rw [decide_eq_false_iff_not]; exact hneg3
    go_wp2_with fail
    go_ret
    refine ⟨t, rfl, by omega, by omega, fun h => ?_, Hb.out⟩
    have := hr2 (by omega)
    have := hs2 (by omega)
    have := ht2 (by omega)
    omega
structure ResFits (r : Res) : Prop where
 X : r.X.length ≤ 1048576
 Y : r.Y.length ≤ 1048576
 R : r.ray.length ≤ 1048576
 N : resN r ≤ 1048576
theorem resFits {r : Res} (h : resN r ≤ 1048576) : ResFits r := by
 have h' := h
 unfold resN at h'
 exact ⟨by omega, by omega, by omega, h⟩
set_option maxHeartbeats 1000000 in
theorem eqRes (B : Nat) (a b c a' b' c' : Option Addr) (c1 c2 c3 d1 d2 d3 : Nat) (r : Res) (hn : ResFits r) (w : World) (hBw : B ≤ w.heap.size) (hz : ResIn B w a b c r) (hy : ResIn B w a' b' c' r) :
  Calls Try.prog 27 #[resV a b c c1 c2 c3 r, resV a' b' c' d1 d2 d3 r] w fun e w' => e = .returned (.bool true) ∧ Below w.heap.size w w' := by
 obtain ⟨n1, n2, n3, _⟩ := hn
 obtain ⟨st, X, Y, Z, ⟨nu, de⟩, pv⟩ := r
 obtain ⟨x1, x2, x3⟩ := hz.mono hBw
 obtain ⟨y1, y2, y3⟩ := hy.mono hBw
 clear hz hy
 simp only at n1 n2 n3 x1 x2 x3 y1 y2 y3
 unfold resV
 simp only
 have hb := ((Below.refl w.heap.size w).alloc (Nat.le_refl _) (.cells #[.int .i64 st, .slice a X.length c1, .slice b Y.length c2, .slice c Z.length c3, .int .i64 nu, .int .i64 de, .int .i64 pv] 34)).alloc (by rw [size1]; omega) (.cells #[.int .i64 st, .slice a' X.length d1, .slice b' Y.length d2, .slice c' Z.length d3, .int .i64 nu, .int .i64 de, .int .i64 pv] 34)
 have hx := (CellsAt.new w #[.int .i64 st, .slice a X.length c1, .slice b Y.length c2, .slice c Z.length c3, .int .i64 nu, .int .i64 de, .int .i64 pv] 34).more (.cells #[.int .i64 st, .slice a' X.length d1, .slice b' Y.length d2, .slice c' Z.length d3, .int .i64 nu, .int .i64 de, .int .i64 pv] 34)
 have hx' := CellsAt.new (w.alloc (.cells #[.int .i64 st, .slice a X.length c1, .slice b Y.length c2, .slice c Z.length c3, .int .i64 nu, .int .i64 de, .int .i64 pv] 34)) #[.int .i64 st, .slice a' X.length d1, .slice b' Y.length d2, .slice c' Z.length d3, .int .i64 nu, .int .i64 de, .int .i64 pv] 34
 rw [size1] at hx'
 have X1 := zH (x1.below hb)
 have X2 := zH (x2.below hb)
 have X3 := zH (x3.below hb)
 have Y1 := zH (y1.below hb)
 have Y2 := zH (y2.below hb)
 have Y3 := zH (y3.below hb)
 have Hx := zH hx
 have Hx' := zH hx'
 have Hb := zH hb
 clear x1 x2 x3 y1 y2 y3 hx hx' hb
 go_enter Try.func27, Try.ntmps27
 go_wp2_with fail
 refine (laws_eqRatS w.heap.size a a' c1 d1 X (by omega) _ Hb.out.size X1.out Y1.out).mono ?_
 rintro e w1 ⟨rfl, k1⟩
 have hx1 := Hx.out.below k1
 have hx1' := Hx'.out.below k1
 obtain ⟨⟨r0, r1, r2, r3, r4, r5, r6⟩, _⟩ := seven hx1
 obtain ⟨⟨s0, s1, s2, s3, s4, s5, s6⟩, _⟩ := seven hx1'
 have Hb1 := zH (Hb.out.trans (k1.mono Hb.out.size))
 have Hk1 := zH (k1.mono Hb.out.size)
 have Hx1 := zH hx1
 have Hx1' := zH hx1'
 clear hx1 hx1' k1
 go_wp2_with fail
 refine (laws_eqRatS w.heap.size b b' c2 d2 Y (by omega) _ Hb1.out.size (X2.out.below Hk1.out) (Y2.out.below Hk1.out)).mono ?_
 rintro e w2 ⟨rfl, k1⟩
 have hx1 := Hx1.out.below k1
 have hx1' := Hx1'.out.below k1
 clear r0 r1 r2 r3 r4 r5 r6 s0 s1 s2 s3 s4 s5 s6
 obtain ⟨⟨r0, r1, r2, r3, r4, r5, r6⟩, _⟩ := seven hx1
 obtain ⟨⟨s0, s1, s2, s3, s4, s5, s6⟩, _⟩ := seven hx1'
 have Hb2 := zH (Hb1.out.trans (k1.mono Hb1.out.size))
 have Hk2 := zH (Hk1.out.trans (k1.mono Hb1.out.size))
 have Hx2 := zH hx1
 have Hx2' := zH hx1'
 clear hx1 hx1' k1
 go_wp2_with fail
 refine (laws_eqRatS w.heap.size c c' c3 d3 Z (by omega) _ Hb2.out.size (X3.out.below Hk2.out) (Y3.out.below Hk2.out)).mono ?_
 rintro e w3 ⟨rfl, k1⟩
 have hx1 := Hx2.out.below k1
 have hx1' := Hx2'.out.below k1
 clear r0 r1 r2 r3 r4 r5 r6 s0 s1 s2 s3 s4 s5 s6
 obtain ⟨⟨r0, r1, r2, r3, r4, r5, r6⟩, _⟩ := seven hx1
 obtain ⟨⟨s0, s1, s2, s3, s4, s5, s6⟩, _⟩ := seven hx1'
 have Hb3 := zH (Hb2.out.trans (k1.mono Hb2.out.size))
 have Hx3 := zH hx1
 have Hx3' := zH hx1'
 clear hx1 hx1' k1
 go_wp2_with fail
 refine (laws_eqRat nu de _).mono ?_
 rintro e w4 ⟨rfl, k1⟩
 have hx1 := Hx3.out.below k1
 have hx1' := Hx3'.out.below k1
 clear r0 r1 r2 r3 r4 r5 r6 s0 s1 s2 s3 s4 s5 s6
 obtain ⟨⟨r0, r1, r2, r3, r4, r5, r6⟩, _⟩ := seven hx1
 obtain ⟨⟨s0, s1, s2, s3, s4, s5, s6⟩, _⟩ := seven hx1'
 have Hb4 := zH (Hb3.out.trans (k1.mono Hb3.out.size))
 clear hx1 hx1' k1
 go_wp2_with fail
 go_ret
 exact ⟨rfl, Hb4.out⟩
end Go.Proofs.Ytmjmjilpcekngaa

namespace Go.Proofs.Ytmjmjilpcekngaa
open Go.RowKit
open Ve (R)
open Lp (Res)
structure OwnRes (lo hi : Nat) (w : World) (v : Value) (r : Res) : Prop where
 ex : ∃ (m1 m2 : Nat) (a b c : Option Addr) (c1 c2 c3 : Nat), v = resV a b c c1 c2 c3 r ∧ lo ≤ m1 ∧ m1 ≤ m2 ∧ m2 ≤ hi ∧ hi ≤ w.heap.size ∧ (OwnRats lo w (.slice a r.X.length c1) r.X ∧ ∀ g, (Value.slice a r.X.length c1).ownBlock = some g → g < m1) ∧
  (OwnRats m1 w (.slice b r.Y.length c2) r.Y ∧ ∀ g, (Value.slice b r.Y.length c2).ownBlock = some g → g < m2) ∧ (OwnRats m2 w (.slice c r.ray.length c3) r.ray ∧ ∀ g, (Value.slice c r.ray.length c3).ownBlock = some g → g < hi)
theorem OwnRes.below {lo hi : Nat} {w w' : World} {v : Value} {r : Res} (h : OwnRes lo hi w v r) (hb : Below w.heap.size w w') : OwnRes lo hi w' v r := by
 obtain ⟨m1, m2, a, b, c, c1, c2, c3, rfl, h1, h2, h3, h4, ⟨hA, kA⟩, ⟨hB, kB⟩, hC, kC⟩ := h
 exact ⟨m1, m2, a, b, c, c1, c2, c3, rfl, h1, h2, h3, Nat.le_trans h4 hb.size, ⟨hA.below hb, kA⟩, ⟨hB.below hb, kB⟩, hC.below hb, kC⟩
theorem OwnRats.readsTo {lo hi : Nat} {w : World} {a : Option Addr} {c : Nat} {xs : List R} (h : OwnRats lo w (.slice a xs.length c) xs) (hb : ∀ g, (Value.slice a xs.length c).ownBlock = some g → g < hi) : RatsIn hi w a xs := by
 obtain ⟨a', c', e, h1, _, _⟩ := own_rats h
 obtain ⟨rfl, rfl⟩ : a = a' ∧ c = c' := by injection e with e1 e2 e3; exact ⟨e1, e3⟩
 exact h1.narrow fun q hq => hb q.block (by rw [hq]; rfl)
theorem OwnRes.reads {lo hi : Nat} {w : World} {v : Value} {r : Res} (h : OwnRes lo hi w v r) : ∃ (a b c : Option Addr) (c1 c2 c3 : Nat), v = resV a b c c1 c2 c3 r ∧ ResIn hi w a b c r ∧ hi ≤ w.heap.size := by
 obtain ⟨m1, m2, a, b, c, c1, c2, c3, rfl, h1, h2, h3, h4, ⟨hA, kA⟩, ⟨hB, kB⟩, hC, kC⟩ := h
 exact ⟨a, b, c, c1, c2, c3, rfl, ⟨(hA.readsTo kA).mono (by omega), (hB.readsTo kB).mono (by omega), hC.readsTo kC⟩, h4⟩
structure ResBoxes (W w : World) (s : Nat) (cs os : Array Value) : Prop where
 arg : CellsAt w s cs 55
 res : CellsAt w (s + 1) #[.int .i64 0, .slice none 0 0, .slice none 0 0, .slice none 0 0, .int .i64 0, .int .i64 0, .int .i64 0] 34
 out : CellsAt w (s + 1 + 1) os 34
 low : Below s W w
 size : s + 3 ≤ w.heap.size
theorem ResBoxes.start (w : World) (cs os : Array Value) :
  ResBoxes w (((w.alloc (.cells cs 55)).alloc (.cells #[.int .i64 0, .slice none 0 0, .slice none 0 0, .slice none 0 0, .int .i64 0, .int .i64 0, .int .i64 0] 34)).alloc (.cells os 34)) w.heap.size cs os := by
 have e1 : (w.alloc (.cells cs 55)).heap.size = w.heap.size + 1 := size1 _ _
 have e2 := size2 w (.cells cs 55) (.cells #[.int .i64 0, .slice none 0 0, .slice none 0 0, .slice none 0 0, .int .i64 0, .int .i64 0, .int .i64 0] 34)
 have h1 := CellsAt.new w cs 55
 have h2 := CellsAt.new (w.alloc (.cells cs 55)) #[.int .i64 0, .slice none 0 0, .slice none 0 0, .slice none 0 0, .int .i64 0, .int .i64 0, .int .i64 0] 34
 have h3 := CellsAt.new ((w.alloc (.cells cs 55)).alloc (.cells #[.int .i64 0, .slice none 0 0, .slice none 0 0, .slice none 0 0, .int .i64 0, .int .i64 0, .int .i64 0] 34)) os 34
 rw [e1] at h2
 rw [e2] at h3
 exact ⟨(h1.more _).more _, h2.more _, h3, (((Below.refl _ w).alloc (Nat.le_refl _) _).alloc (by rw [e1]; omega) _).alloc (by rw [e2]; omega) _, by rw [size1, e2]; omega⟩
theorem ResBoxes.below {W w w' : World} {s : Nat} {cs os : Array Value} (h : ResBoxes W w s cs os) (hb : Below w.heap.size w w') : ResBoxes W w' s cs os :=
 ⟨h.arg.below hb, h.res.below hb, h.out.below hb, h.low.trans (hb.mono (by have := h.size; omega)), by have := h.size; have := hb.size; omega⟩
theorem ResBoxes.set {W w : World} {s : Nat} {cs os : Array Value} (h : ResBoxes W w s cs os) (i : Nat) (u : Value) : ResBoxes W (w.setCell ⟨s + 1 + 1, i, none⟩ u) s cs (os.setIfInBounds i u) :=
 ⟨h.arg.other (p := ⟨s + 1 + 1, i, none⟩) (show s + 1 + 1 ≠ s by omega) u, h.res.other (p := ⟨s + 1 + 1, i, none⟩) (show s + 1 + 1 ≠ s + 1 by omega) u, h.out.set i u, h.low.setCell (p := ⟨s + 1 + 1, i, none⟩) (show s ≤ s + 1 + 1 by omega) u, by have := h.size; simpa [World.setCell] using this⟩
theorem res_made {s n0 : Nat} {w1 w1' w2 w2' w3 w4 : World} {a b c : Option Addr} {c1 c2 c3 : Nat} {r : Res} (h0 : s + 3 ≤ n0) (e1 : w1'.heap.size = w1.heap.size) (e2 : w2'.heap.size = w2.heap.size) (h1 : n0 ≤ w1.heap.size) (hA : OwnRats n0 w1 (.slice a r.X.length c1) r.X) (hB : OwnRats w1'.heap.size w2 (.slice b r.Y.length c2) r.Y) (hC : OwnRats w2'.heap.size w3 (.slice c r.ray.length c3) r.ray)
  (t1 : Turned s (s + 3) w1 w1') (kB : Below w1'.heap.size w1' w2) (t2 : Turned s (s + 3) w2 w2') (kC : Below w2'.heap.size w2' w3) (t3 : Turned s (s + 3) w3 w4) : OwnRes s w4.heap.size w4 (resV a b c c1 c2 c3 r) r := by
 have hs2 := kB.size
 have hs3 := kC.size
 have hs4 := t3.size
 have T3 := t3
 have T2 := (t2.step kC).trans T3
 have T1 := (t1.step kB).trans T2
 have lA : ∀ g, (Value.slice a r.X.length c1).ownBlock = some g → n0 ≤ g ∧ g < w1.heap.size := World.ownsRow.lt hA
 have lB : ∀ g, (Value.slice b r.Y.length c2).ownBlock = some g → w1'.heap.size ≤ g ∧ g < w2.heap.size := World.ownsRow.lt hB
 have lC : ∀ g, (Value.slice c r.ray.length c3).ownBlock = some g → w2'.heap.size ≤ g ∧ g < w3.heap.size := World.ownsRow.lt hC
 refine ⟨w1.heap.size, w2.heap.size, a, b, c, c1, c2, c3, rfl, by omega, by omega, by omega, Nat.le_refl _, ⟨(hA.turned T1 fun g hg => .inr ?_).raise (by omega), fun g hg => (lA g hg).2⟩, ⟨(hB.turned T2 fun g hg => .inr ?_).raise (by omega), fun g hg => (lB g hg).2⟩, (hC.turned T3 fun g hg => .inr ?_).raise (by omega), fun g hg => ?_⟩
 ·
  have := lA g hg; omega
 ·
  have := lB g hg; omega
 ·
  have := lC g hg; omega
 ·
  have := lC g hg; omega
set_option maxHeartbeats 2000000 in
theorem toRes (B : Nat) (a b c : Option Addr) (c1 c2 c3 : Nat) (r : Res) (hn : ResFits r) (w : World) (hBw : B ≤ w.heap.size) (hz : ResIn B w a b c r) :
  Calls Try.prog 25 #[resV a b c c1 c2 c3 r] w fun e w' => ∃ v, e = .returned v ∧ OwnRes w.heap.size w'.heap.size w' v r ∧ Below w.heap.size w w' := by
 obtain ⟨n1, n2, n3, _⟩ := hn
 obtain ⟨st, X, Y, Z, ⟨nu, de⟩, pv⟩ := r
 simp only at n1 n2 n3
 have Hz := zH (hz.mono hBw)
 clear hz
 rw [show resV a b c c1 c2 c3 ⟨st, X, Y, Z, (nu, de), pv⟩ = .agg #[.int .i64 st, .slice a X.length c1, .slice b Y.length c2, .slice c Z.length c3, .int .i64 nu, .int .i64 de, .int .i64 pv] from rfl]
 have Hb0 := zH (ResBoxes.start w #[.int .i64 st, .slice a X.length c1, .slice b Y.length c2, .slice c Z.length c3, .int .i64 nu, .int .i64 de, .int .i64 pv] #[.int .i64 st, .slice none 0 0, .slice none 0 0, .slice none 0 0, .int .i64 0, .int .i64 0, .int .i64 0])
 go_enter Try.func25, Try.ntmps25
 go_wp2_with fail
 refine (laws_toRatS _ a c1 X n1 _ (Nat.le_refl _) (((Hz.out.below Hb0.out.low).mono (by have := Hb0.out.size; omega)).mX)).mono ?_
 rintro e w1 ⟨vA, rfl, oA, kA⟩
 have hb1 := Hb0.out.below kA
 obtain ⟨⟨r0, r1, r2, r3, r4, r5, r6⟩, _⟩ := seven hb1.arg
 obtain ⟨⟨o0, o1, o2, o3, o4, o5, o6⟩, f0, f1, f2, f3, f4, f5, f6⟩ := seven hb1.out
 have Hb1 := zH (hb1.set 1 vA)
 have HA := zH oA
 have KA := zH kA
 obtain ⟨aA, cA, rfl, _⟩ := own_rats oA
 clear hb1 oA kA
 go_wp2_with fail
 have e1 : (w1.setCell ⟨w.heap.size + 1 + 1, 1, none⟩ (.slice aA X.length cA)).heap.size = w1.heap.size := by simp [World.setCell]
 refine (laws_toRatS _ b c2 Y n2 _ (Nat.le_refl _) (((Hz.out.below Hb1.out.low).mono (by have := Hb1.out.size; omega)).mY)).mono ?_
 rintro e w2 ⟨vB, rfl, oB, kB⟩
 have hb1 := Hb1.out.below kB
 clear r0 r1 r2 r3 r4 r5 r6 o0 o1 o2 o3 o4 o5 o6 f0 f1 f2 f3 f4 f5 f6
 obtain ⟨⟨r0, r1, r2, r3, r4, r5, r6⟩, _⟩ := seven hb1.arg
 obtain ⟨⟨o0, o1, o2, o3, o4, o5, o6⟩, f0, f1, f2, f3, f4, f5, f6⟩ := seven hb1.out
 have Hb2 := zH (hb1.set 2 vB)
 have HB := zH oB
 have KB := zH kB
 obtain ⟨aB, cB, rfl, _⟩ := own_rats oB
 clear hb1 oB kB
 go_wp2_with fail
 have e2 : (w2.setCell ⟨w.heap.size + 1 + 1, 2, none⟩ (.slice aB Y.length cB)).heap.size = w2.heap.size := by simp [World.setCell]
 refine (laws_toRatS _ c c3 Z n3 _ (Nat.le_refl _) (((Hz.out.below Hb2.out.low).mono (by have := Hb2.out.size; omega)).mR)).mono ?_
 rintro e w3 ⟨vC, rfl, oC, kC⟩
 have hb1 := Hb2.out.below kC
 clear r0 r1 r2 r3 r4 r5 r6 o0 o1 o2 o3 o4 o5 o6 f0 f1 f2 f3 f4 f5 f6
 obtain ⟨⟨r0, r1, r2, r3, r4, r5, r6⟩, _⟩ := seven hb1.arg
 obtain ⟨⟨o0, o1, o2, o3, o4, o5, o6⟩, f0, f1, f2, f3, f4, f5, f6⟩ := seven hb1.out
 have Hb3 := zH (hb1.set 3 vC)
 have HC := zH oC
 have KC := zH kC
 obtain ⟨aC, cC, rfl, _⟩ := own_rats oC
 clear hb1 oC kC
 go_wp2_with fail
 refine (laws_toRat nu de _).mono ?_
 rintro e w4 ⟨rfl, kD⟩
 have hb1 := Hb3.out.below kD
 clear r0 r1 r2 r3 r4 r5 r6 o0 o1 o2 o3 o4 o5 o6 f0 f1 f2 f3 f4 f5 f6
 obtain ⟨⟨r0, r1, r2, r3, r4, r5, r6⟩, _⟩ := seven hb1.arg
 obtain ⟨⟨o0, o1, o2, o3, o4, o5, o6⟩, f0, f1, f2, f3, f4, f5, f6⟩ := seven hb1.out
 have hb5 := ((hb1.set 4 (.int .i64 nu)).set 5 (.int .i64 de)).set 6 (.int .i64 pv)
 obtain ⟨⟨x0, x1, x2, x3, x4, x5, x6⟩, g0, g1, g2, g3, g4, g5, g6⟩ := seven hb5.res
 obtain ⟨⟨y0, y1, y2, y3, y4, y5, y6⟩, _⟩ := seven hb5.out
 have Hb5 := zH hb5
 have KD := zH kD
 clear hb1 kD hb5
 go_wp2_with fail
 refine bodyPost_ret (v := .agg #[.int .i64 st, .slice aA X.length cA, .slice aB Y.length cB, .slice aC Z.length cC, .int .i64 nu, .int .i64 de, .int .i64 pv]) (by
  obtain ⟨⟨z0, z1, z2, z3, z4, z5, z6⟩, _⟩ := seven (((((((Hb5.out.res.set 0 (.int .i64 st)).set 1 (.slice aA X.length cA)).set 2 (.slice aB Y.length cB)).set 3 (.slice aC Z.length cC)).set 4 (.int .i64 nu)).set 5 (.int .i64 de)).set 6 (.int .i64 pv))
  revert z0 z1 z2 z3 z4 z5 z6
  generalize ((((((((((w4.setCell ⟨w.heap.size + 1 + 1, 4, none⟩ (.int .i64 nu)).setCell ⟨w.heap.size + 1 + 1, 5, none⟩ (.int .i64 de)).setCell ⟨w.heap.size + 1 + 1, 6, none⟩ (.int .i64 pv)).setCell ⟨w.heap.size + 1, 0, none⟩ (.int .i64 st)).setCell ⟨w.heap.size + 1, 1, none⟩ (.slice aA X.length cA)).setCell ⟨w.heap.size + 1, 2, none⟩ (.slice aB Y.length cB)).setCell ⟨w.heap.size + 1, 3, none⟩ (.slice aC Z.length cC)).setCell ⟨w.heap.size + 1, 4, none⟩ (.int .i64 nu)).setCell ⟨w.heap.size + 1, 5, none⟩ (.int .i64 de)).setCell ⟨w.heap.size + 1, 6, none⟩ (.int .i64 pv)) = W4
  intro z0 z1 z2 z3 z4 z5 z6
  simp [results, Try.results25, go_sem, z0, z1, z2, z3, z4, z5, z6]) rfl ⟨_, rfl, ?_, ?_⟩
 ·
  have hs := Hb0.out.size
  exact res_made (r := ⟨st, X, Y, Z, (nu, de), pv⟩) hs e1 e2 KA.out.size HA.out HB.out HC.out ((Turned.refl _ _ _).setCell (by simp only; omega) (by simp only; omega) _) KB.out ((Turned.refl _ _ _).setCell (by simp only; omega) (by simp only; omega) _) KC.out (((((((((((((Turned.refl _ _ _).setCell (by simp only; omega) (by simp only; omega) _).step KD.out).setCell (by simp only; omega) (by simp only; omega) _).setCell (by simp only; omega) (by simp only; omega) _).setCell (by simp only; omega) (by simp only; omega) _).setCell (by simp only; omega) (by simp only; omega) _).setCell (by simp only; omega) (by simp only; omega) _).setCell (by simp only; omega) (by simp only; omega) _).setCell (by simp only; omega) (by simp only; omega) _).setCell (by simp only; omega) (by simp only; omega) _).setCell (by simp only; omega) (by simp only; omega) _).setCell (by simp only; omega) (by simp only; omega) _)
 ·
  exact (((((((Hb5.out.low.setCell (p := ⟨w.heap.size + 1, 0, none⟩) (Nat.le_succ _) _).setCell (p := ⟨w.heap.size + 1, 1, none⟩) (Nat.le_succ _) _).setCell (p := ⟨w.heap.size + 1, 2, none⟩) (Nat.le_succ _) _).setCell (p := ⟨w.heap.size + 1, 3, none⟩) (Nat.le_succ _) _).setCell (p := ⟨w.heap.size + 1, 4, none⟩) (Nat.le_succ _) _).setCell (p := ⟨w.heap.size + 1, 5, none⟩) (Nat.le_succ _) _).setCell (p := ⟨w.heap.size + 1, 6, none⟩) (Nat.le_succ _) _)
end Go.Proofs.Ytmjmjilpcekngaa
