/- The parts LpE, LpE2, LpF, LpG, LpK. -/
import Derived.Test.YtjkofijchdibdaaGLb
import Derived.Test.YtjkofijchdibdaaGRa
import Derived.Deep.RegionHeld3
import Derived.Test.YtjkofijchdibdaaGLr
import Derived.Test.YtjkofijchdibdaaGLk
namespace Go.Proofs.Ytjkofijchdibdaa
open Go.RowKit
open Ve (R)
open Lp (P)
theorem cmul_since {P : Program} {f : FuncId} {args : Array Value} {wx : World} {v : Value} (h : Calls P f args wx fun e w' => e = .returned v ∧ Below wx.heap.size wx w') {B : World} (hB : Since B wx) :
  Calls P f args wx fun e w' => e = .returned v ∧ Since B w' := h.mono fun _ _ ⟨he, hb⟩ => ⟨he, hB.trans hb⟩
def gvOk (p : P) (v : List R) (b : List Int) (k : Nat) : Bool := Lp.idK (rw_ p.A k) v && decide (Lp.idR (rw_ p.A k) v = (b.getD k 0, 1))
theorem gv_bad {p : P} {v : List R} {b : List Int} {k : Nat} (hk : k < p.A.length) (h : gvOk p v b k = false) : Lp.gives p v b = false := by
 rw [Bool.eq_false_iff]
 intro h2
 unfold Lp.gives at h2
 rw [List.all_eq_true] at h2
 have h3 := h2 k (by simpa using hk)
 unfold gvOk at h
 rw [← rows_row] at h
 rw [h] at h3
 cases h3
theorem gv_good {p : P} {v : List R} {b : List Int} (h : ∀ k, k < p.A.length → gvOk p v b k = true) : Lp.gives p v b = true := by
 unfold Lp.gives
 rw [List.all_eq_true]
 intro k hk
 exact h k (by simpa using hk)
def PairNum (q bb k : Nat) (x : R) (z : Int) (B : World) : Prop :=
 B.cell? ⟨q, 0, none⟩ = some (.int .i64 x.1) ∧ B.cell? ⟨q, 1, none⟩ = some (.int .i64 x.2) ∧ B.cell? ⟨bb, k, none⟩ = some (.int .i64 z) ∧ q < B.heap.size ∧ bb < B.heap.size
theorem PairNum.four {q bb k : Nat} {x : R} {z : Int} {B wx : World} (H : Hid (PairNum q bb k x z B)) (h : Since B wx) :
  wx.cell? ⟨q, 0, none⟩ = some (.int .i64 x.1) ∧ wx.cell? ⟨q, 1, none⟩ = some (.int .i64 x.2) ∧ wx.cell? ⟨bb, k, none⟩ = some (.int .i64 z) ∧ Since B wx :=
 ⟨h.cell H.out.2.2.2.1 H.out.1, h.cell H.out.2.2.2.1 H.out.2.1, h.cell (p := ⟨bb, k, none⟩) H.out.2.2.2.2 H.out.2.2.1, h⟩
end Go.Proofs.Ytjkofijchdibdaa

namespace Go.Proofs.Ytjkofijchdibdaa
open Go.RowKit
open Ve (R)
open Lp (P)
theorem b_len {p : P} (h : Lp.vldP p = true) : p.A.length ≤ p.B.length := by have := (Lp.vld_parts h).2.2.2.1; omega
end Go.Proofs.Ytjkofijchdibdaa

namespace Go.Proofs.Ytjkofijchdibdaa
open Go.RowKit
open Ve (R)
open Lp (P)
def duOk (p : P) (y c : List R) (j : Nat) : Bool := Lp.idK (Lp.col p j) y && Lp.notLess (Ve.at_ c j) (Lp.idR (Lp.col p j) y)
theorem du_bad {p : P} {y c : List R} {j : Nat} (hj : j < p.C.length) (h : duOk p y c j = false) : Lp.dual p y c = false := by
 rw [Bool.eq_false_iff]
 intro h2
 unfold Lp.dual at h2
 rw [List.all_eq_true] at h2
 have h3 := h2 j (by simpa using hj)
 unfold duOk at h
 rw [h] at h3
 cases h3
theorem du_good {p : P} {y c : List R} (h : ∀ j, j < p.C.length → duOk p y c j = true) : Lp.dual p y c = true := by
 unfold Lp.dual
 rw [List.all_eq_true]
 intro k hk
 exact h k (by simpa using hk)
theorem compare_rat (x y : R) (w : World) : Calls Try.prog 54 #[.agg #[.int .i64 x.1, .int .i64 x.2], .agg #[.int .i64 y.1, .int .i64 y.2]] w fun e w' => e = .returned (.int .i64 (Ra.cmp x.1 x.2 y.1 y.2)) ∧ Below w.heap.size w w' := spec_CompareRat x.1 x.2 y.1 y.2 w
end Go.Proofs.Ytjkofijchdibdaa

namespace Go.Proofs.Ytjkofijchdibdaa
open Go.RowKit
open Ve (R)
open Lp (P Res)
theorem ten_cells {W wr : World} {s q : Nat} {x y z : Value} {t t' : TypeId} {v0 v1 v2 v3 v4 v5 v6 : Value} (H : Hid (Tri W s x y z t ∧ CellsAt W q #[v0, v1, v2, v3, v4, v5, v6] t')) (hs : Since W wr) :
  (wr.cell? ⟨s, 0, none⟩ = some x ∧ wr.cell? ⟨s, 1, none⟩ = some y ∧ wr.cell? ⟨s, 2, none⟩ = some z) ∧ (wr.cell? ⟨q, 0, none⟩ = some v0 ∧ wr.cell? ⟨q, 1, none⟩ = some v1 ∧ wr.cell? ⟨q, 2, none⟩ = some v2 ∧ wr.cell? ⟨q, 3, none⟩ = some v3 ∧ wr.cell? ⟨q, 4, none⟩ = some v4 ∧ wr.cell? ⟨q, 5, none⟩ = some v5 ∧ wr.cell? ⟨q, 6, none⟩ = some v6) := by
 obtain ⟨h1, h2⟩ := H.out
 obtain ⟨a0, a1, a2, _⟩ := (h1.below hs.low).cells
 exact ⟨⟨a0, a1, a2⟩, (seven (h2.below hs.low)).1⟩
theorem two_boxes (w : World) (x y z : Value) (t t' : TypeId) (cs : Array Value) :
  Tri ((w.alloc (.cells #[x, y, z] t)).alloc (.cells cs t')) w.heap.size x y z t ∧ CellsAt ((w.alloc (.cells #[x, y, z] t)).alloc (.cells cs t')) (w.heap.size + 1) cs t' := by
 have h2 := CellsAt.new (w.alloc (.cells #[x, y, z] t)) cs t'
 rw [size1] at h2
 exact ⟨(Tri.new w x y z t).more _, h2⟩
end Go.Proofs.Ytjkofijchdibdaa

namespace Go.Proofs.Ytjkofijchdibdaa
open Go.RowKit
open Ve (R)
open Lp (P Res)
def ChkBox (w0 : World) (a b c ra rb rc : Option Addr) (c1 c2 c3 d1 d2 d3 : Nat) (p : P) (r : Res) (t t' : TypeId) (w : World) : Prop :=
 Below w0.heap.size w0 w ∧ LpIn w0.heap.size w a b c p ∧ ResIn w0.heap.size w ra rb rc r ∧ Tri w w0.heap.size (.slice a p.A.length c1) (.slice b p.B.length c2) (.slice c p.C.length c3) t ∧
 CellsAt w (w0.heap.size + 1) #[.int .i64 r.status, .slice ra r.X.length d1, .slice rb r.Y.length d2, .slice rc r.ray.length d3, .int .i64 r.value.1, .int .i64 r.value.2, .int .i64 r.pivots] t'
theorem ChkBox.up {w0 : World} {a b c ra rb rc : Option Addr} {c1 c2 c3 d1 d2 d3 : Nat} {p : P} {r : Res} {t t' : TypeId} {w w' : World} (h : ChkBox w0 a b c ra rb rc c1 c2 c3 d1 d2 d3 p r t t' w) (hb : Below w.heap.size w w') :
  ChkBox w0 a b c ra rb rc c1 c2 c3 d1 d2 d3 p r t t' w' := by
 obtain ⟨h1, h2, h3, h4, h5⟩ := h
 have hl := hb.mono h1.size
 exact ⟨h1.trans hl, h2.below hl, h3.below hl, h4.below hb, h5.below hb⟩
theorem ChkBox.start (w0 : World) {B : Nat} (a b c ra rb rc : Option Addr) (c1 c2 c3 d1 d2 d3 : Nat) (p : P) (r : Res) (t t' : TypeId) (hB : B ≤ w0.heap.size) (h : LpIn B w0 a b c p) (h' : ResIn B w0 ra rb rc r) :
  ChkBox w0 a b c ra rb rc c1 c2 c3 d1 d2 d3 p r t t' ((w0.alloc (.cells #[.slice a p.A.length c1, .slice b p.B.length c2, .slice c p.C.length c3] t)).alloc
   (.cells #[.int .i64 r.status, .slice ra r.X.length d1, .slice rb r.Y.length d2, .slice rc r.ray.length d3, .int .i64 r.value.1, .int .i64 r.value.2, .int .i64 r.pivots] t')) := by
 have hb := ((Below.refl w0.heap.size w0).alloc (Nat.le_refl _) (.cells #[.slice a p.A.length c1, .slice b p.B.length c2, .slice c p.C.length c3] t)).alloc (by rw [size1]; omega) (.cells #[.int .i64 r.status, .slice ra r.X.length d1, .slice rb r.Y.length d2, .slice rc r.ray.length d3, .int .i64 r.value.1, .int .i64 r.value.2, .int .i64 r.pivots] t')
 obtain ⟨k1, k2⟩ := two_boxes w0 (.slice a p.A.length c1) (.slice b p.B.length c2) (.slice c p.C.length c3) t t' #[.int .i64 r.status, .slice ra r.X.length d1, .slice rb r.Y.length d2, .slice rc r.ray.length d3, .int .i64 r.value.1, .int .i64 r.value.2, .int .i64 r.pivots]
 exact ⟨hb, (h.mono hB).below hb, (h'.mono hB).below hb, k1, k2⟩
theorem stable_chk (w0 : World) (a b c ra rb rc : Option Addr) (c1 c2 c3 d1 d2 d3 : Nat) (p : P) (r : Res) (t t' : TypeId) : Stable fun w => ChkBox w0 a b c ra rb rc c1 c2 c3 d1 d2 d3 p r t t' w := fun _ _ hb h => h.up hb
theorem makes_k {P : Program} {f : FuncId} {args : Array Value} {w : World} {xs : List R} (h : Calls P f args w (MakesRats xs w)) : Calls P f args w fun e w' => (∃ v, e = .returned v ∧ OwnRats w.heap.size w' v xs) ∧ Below w.heap.size w w' :=
 h.mono fun _ _ ⟨v, he, ho, hb⟩ => ⟨⟨v, he, ho⟩, hb⟩
theorem zerosI_len (n : Nat) : (Lp.zerosI n).length = n := by simp [Lp.zerosI]
theorem slice_inj {a b : Option Addr} {n m c d : Nat} (h : Value.slice a n c = .slice b m d) : a = b ∧ c = d := by injection h with h1 h2 h3; exact ⟨h1, h3⟩
theorem below_made {w w' : World} (h : w.grownBy w' none) : Below w.heap.size w w' := (Below.refl w.heap.size w).grown h (Nat.le_refl _) (fun k hk => by cases hk)
theorem zeros_own {B n : Nat} {w : World} {v : Value} (h : w.ownsRow B 3 1 v n (madeCells (Value.int .i64 0).cells (n * 1)).toList) : OwnInts B w v (Lp.zerosI n) := by
 unfold OwnInts
 rw [zerosI_len]
 have e : (madeCells (Value.int .i64 0).cells (n * 1)).toList = (Lp.zerosI n).map (Value.int .i64) := by
  apply List.ext_getElem
  ·
   simp [madeCells, Lp.zerosI]
  ·
   intro i h1 h2
   simp [madeCells, Lp.zerosI, Value.cells, Nat.mod_one]
 rw [← e]; exact h
theorem step_make_full {P : Program} {w : World} {ops : Array Oper} {o : Oper} {a : Act} {K : Act → World → Prop} {Q : Exit → Act → World → Prop} {E : Prop} (hwt : Region.wanted o (yielded ops a.tmps) = true) (l c : Operand) (t : TypeId) (hop : o.op = Op.makeSlice t l c)
  (base : Nat) (e : TypeId) (i : TypeInfo) (z : Value) (size : Nat) (h1 : P.underlying t = some (.slice e)) (h2 : P.info? e = some i) (h3 : i.zero = some z) (h4 : i.size = size) (_h5 : size = size)
  (kl kc : IntKind) (L C : Int) (n : Nat) (hl : a.eval l = .int kl L) (hc : a.eval c = .int kc C) (hL : L = (n : Int)) (hC : C = (n : Int)) (b2 : i.bytes * n ≤ 281474976710656) (b3 : n ≤ maxLen) (b4 : base ≤ w.heap.size)
  (hK : ∀ w', w'.ownsRow base e size (.slice (some ⟨w.heap.size, 0, none⟩) n n) n (madeCells z.cells (n * size)).toList → w.grownBy w' none → K (a.put o.dst (.slice (some ⟨w.heap.size, 0, none⟩) n n)) w') :
  if Region.wanted o (yielded ops a.tmps) = true then Oper.wp P o a w K Q else E := by
 rw [if_pos hwt]
 obtain ⟨w', hrun, r1, r2⟩ := run_make_full (P := P) w base t e i z size h1 h2 h3 h4 kl kc n b2 b3 b4
 subst hL
 subst hC
 unfold Oper.wp
 simp [execOp, hop, hl, hc, hrun, Result.andThen]
 exact hK w' r1 r2
end Go.Proofs.Ytjkofijchdibdaa
