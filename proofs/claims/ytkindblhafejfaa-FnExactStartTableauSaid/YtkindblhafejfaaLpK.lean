/- spec.CheckLP. -/
import Derived.Test.YtkindblhafejfaaLpG
import Derived.Test.YtkindblhafejfaaLpV
namespace Go.Proofs.Ytkindblhafejfaa
open Go.RowKit
open Ve (R)
open Lp (P Res)
/-- The boxes of CheckLP: the LP's three cells, the result's seven. -/
def ChkBox (w0 : World) (a b c ra rb rc : Option Addr) (c1 c2 c3 d1 d2 d3 : Nat) (p : P) (r : Res) (t t' : TypeId) (w : World) : Prop :=
  Below w0.heap.size w0 w ∧ LpIn w0.heap.size w a b c p ∧ ResIn w0.heap.size w ra rb rc r ∧ Tri w w0.heap.size (.slice a p.A.length c1) (.slice b p.B.length c2) (.slice c p.C.length c3) t ∧
  CellsAt w (w0.heap.size + 1) #[.int .i64 r.status, .slice ra r.X.length d1, .slice rb r.Y.length d2, .slice rc r.ray.length d3, .int .i64 r.value.1, .int .i64 r.value.2, .int .i64 r.pivots] t'
theorem ChkBox.up {w0 : World} {a b c ra rb rc : Option Addr} {c1 c2 c3 d1 d2 d3 : Nat} {p : P} {r : Res} {t t' : TypeId} {w w' : World} (h : ChkBox w0 a b c ra rb rc c1 c2 c3 d1 d2 d3 p r t t' w) (hb : Below w.heap.size w w') :
    ChkBox w0 a b c ra rb rc c1 c2 c3 d1 d2 d3 p r t t' w' := by
  obtain ⟨h1, h2, h3, h4, h5⟩ := h
  have hl := hb.mono h1.size
  exact ⟨h1.trans hl, h2.below hl, h3.below hl, h4.below hb, h5.below hb⟩
theorem ChkBox.start (w0 : World) {B : Nat} (a b c ra rb rc : Option Addr) (c1 c2 c3 d1 d2 d3 : Nat) (p : P) (r : Res) (t t' : TypeId) (hB : B ≤ w0.heap.size) (h : LpIn B w0 a b c p) (h' : ResIn B w0 ra rb rc r) :
    ChkBox w0 a b c ra rb rc c1 c2 c3 d1 d2 d3 p r t t' ((w0.alloc (.cells #[.slice a p.A.length c1, .slice b p.B.length c2, .slice c p.C.length c3] t)).alloc
      (.cells #[.int .i64 r.status, .slice ra r.X.length d1, .slice rb r.Y.length d2, .slice rc r.ray.length d3, .int .i64 r.value.1, .int .i64 r.value.2, .int .i64 r.pivots] t')) := by
  have hb := ((Below.refl w0.heap.size w0).alloc (Nat.le_refl _) (.cells #[.slice a p.A.length c1, .slice b p.B.length c2, .slice c p.C.length c3] t)).alloc (by rw [size1]; omega) (.cells #[.int .i64 r.status, .slice ra r.X.length d1, .slice rb r.Y.length d2, .slice rc r.ray.length d3, .int .i64 r.value.1, .int .i64 r.value.2, .int .i64 r.pivots] t')
  obtain ⟨k1, k2⟩ := two_boxes w0 (.slice a p.A.length c1) (.slice b p.B.length c2) (.slice c p.C.length c3) t t' #[.int .i64 r.status, .slice ra r.X.length d1, .slice rb r.Y.length d2, .slice rc r.ray.length d3, .int .i64 r.value.1, .int .i64 r.value.2, .int .i64 r.pivots]
  exact ⟨hb, (h.mono hB).below hb, (h'.mono hB).below hb, k1, k2⟩
theorem stable_chk (w0 : World) (a b c ra rb rc : Option Addr) (c1 c2 c3 d1 d2 d3 : Nat) (p : P) (r : Res) (t t' : TypeId) : Stable fun w => ChkBox w0 a b c ra rb rc c1 c2 c3 d1 d2 d3 p r t t' w := fun _ _ hb h => h.up hb
theorem makes_k {P : Program} {f : FuncId} {args : Array Value} {w : World} {xs : List R} (h : Calls P f args w (MakesRats xs w)) : Calls P f args w fun e w' => (∃ v, e = .returned v ∧ OwnRats w.heap.size w' v xs) ∧ Below w.heap.size w w' :=
  h.mono fun _ _ ⟨v, he, ho, hb⟩ => ⟨⟨v, he, ho⟩, hb⟩
theorem zerosI_len (n : Nat) : (Lp.zerosI n).length = n := by simp [Lp.zerosI]
theorem slice_inj {a b : Option Addr} {n m c d : Nat} (h : Value.slice a n c = .slice b m d) : a = b ∧ c = d := by injection h with h1 h2 h3; exact ⟨h1, h3⟩
theorem below_made {w w' : World} (h : w.grownBy w' none) : Below w.heap.size w w' := (Below.refl w.heap.size w).grown h (Nat.le_refl _) (fun k hk => by cases hk)
theorem zeros_own {B n : Nat} {w : World} {v : Value} (h : w.ownsRow B 3 1 v n (madeCells (Value.int .i64 0).cells (n * 1)).toList) : OwnInts B w v (Lp.zerosI n) := by
  unfold OwnInts
  rw [zerosI_len]
  have e : (madeCells (Value.int .i64 0).cells (n * 1)).toList = (Lp.zerosI n).map (Value.int .i64) := by
    apply List.ext_getElem
    · simp [madeCells, Lp.zerosI]
    · intro i h1 h2
      simp [madeCells, Lp.zerosI, Value.cells, Nat.mod_one]
  rw [← e]; exact h
/-- 'make([]T, n)' as one step of a region that draws its order. -/
theorem step_make_full {P : Program} {w : World} {ops : Array Oper} {o : Oper} {a : Act} {K : Act → World → Prop} {Q : Exit → Act → World → Prop} {E : Prop} (hwt : Region.wanted o (yielded ops a.tmps) = true) (l c : Operand) (t : TypeId) (hop : o.op = Op.makeSlice t l c)
    (base : Nat) (e : TypeId) (i : TypeInfo) (z : Value) (size : Nat) (h1 : P.underlying t = some (.slice e)) (h2 : P.info? e = some i) (h3 : i.zero = some z) (h4 : i.size = size) (_h5 : size = size)
    (kl kc : IntKind) (L C : Int) (n : Nat) (hl : a.eval l = .int kl L) (hc : a.eval c = .int kc C) (hL : L = (n : Int)) (hC : C = (n : Int)) (b2 : i.bytes * n ≤ 281474976710656) (b3 : n ≤ maxLen) (b4 : base ≤ w.heap.size)
    (hK : ∀ w', w'.ownsRow base e size (.slice (some ⟨w.heap.size, 0, none⟩) n n) n (madeCells z.cells (n * size)).toList → w.grownBy w' none → K (a.put o.dst (.slice (some ⟨w.heap.size, 0, none⟩) n n)) w') :
    if Region.wanted o (yielded ops a.tmps) = true then Oper.wp P o a w K Q else E := by
  rw [if_pos hwt]
  obtain ⟨w', hrun, r1, r2⟩ := run_make_full (P := P) w base t e i z size h1 h2 h3 h4 kl kc n b2 b3 b4
  subst hL
  subst hC
  unfold Oper.wp
  simp [execOp, hop, hl, hc, hrun, Result.andThen]
  exact hK w' r1 r2
end Go.Proofs.Ytkindblhafejfaa
