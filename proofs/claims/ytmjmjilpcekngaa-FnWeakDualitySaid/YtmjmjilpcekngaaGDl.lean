/- The parts Ix, DrL0, DrL, DrL2. -/
import Derived.Test.YtmjmjilpcekngaaGrI
import Derived.Test.YtmjmjilpcekngaaGLa
import Derived.Test.YtmjmjilpcekngaaDrI
import Derived.Maps.AppendAt
import Derived.Test.YtmjmjilpcekngaaGTa
import Derived.Test.YtmjmjilpcekngaaGTo
import Derived.Test.YtmjmjilpcekngaaGTd
import Derived.Test.YtmjmjilpcekngaaRaDraw
import Derived.Test.YtmjmjilpcekngaaGM
import Derived.Test.YtmjmjilpcekngaaHeldT
set_option maxRecDepth 100000
namespace Go.Proofs.Ytmjmjilpcekngaa
open Go.RowKit
theorem int_ne_ints : 3 ≠ 25 := by decide
theorem rw_of {L : List (List Int)} {j : Nat} {x : List Int} (h : L[j]? = some x) : rw_ L j = x := by
 unfold rw_
 rw [List.getD_eq_getElem?_getD, h]; rfl
theorem rw_set_self {L : List (List Int)} {j : Nat} {x : List Int} (h : j < L.length) : rw_ (L.set j x) j = x := rw_of (by simp [h])
theorem rw_set_ne {L : List (List Int)} {i j : Nat} {x : List Int} (h : i ≠ j) : rw_ (L.set j x) i = rw_ L i := by
 unfold rw_
 rw [List.getD_eq_getElem?_getD, List.getD_eq_getElem?_getD, List.getElem?_set_ne (fun e => h e.symm)]
theorem rw_snoc_old {L : List (List Int)} {j : Nat} {x : List Int} (h : j < L.length) : rw_ (L ++ [x]) j = rw_ L j := by
 unfold rw_
 rw [List.getD_eq_getElem?_getD, List.getD_eq_getElem?_getD, List.getElem?_append_left h]
theorem rw_snoc_new {L : List (List Int)} {x : List Int} : rw_ (L ++ [x]) L.length = x := rw_of (by rw [List.getElem?_append_right (Nat.le_refl _)]; simp)
structure RowsIX (lo : Nat) (w : World) (vs : List Value) (L : List (List Int)) : Prop where
 len : vs.length = L.length
 own : ∀ (j : Nat) (u : Value), vs[j]? = some u → OwnInts lo w u (rw_ L j)
 apart : ∀ (i j : Nat) (u v : Value), i ≠ j → vs[i]? = some u → vs[j]? = some v → ∀ b, u.ownBlock = some b → v.ownBlock ≠ some b
theorem RowsIX.kept {lo : Nat} {w w' : World} {vs : List Value} {L : List (List Int)} (h : RowsIX lo w vs L) (hk : ∀ b, lo ≤ b → b < w.heap.size → TyAt w b 3 → w'.heap[b]? = w.heap[b]?) : RowsIX lo w' vs L :=
 ⟨h.len, fun j u e => owns_same (h.own j u e) fun g hg => hk g (World.ownsRow.lt (h.own j u e) g hg).1 (World.ownsRow.lt (h.own j u e) g hg).2 (owns_ty (h.own j u e) hg), h.apart⟩
theorem RowsIX.grew {lo j : Nat} {w w1 : World} {vs : List Value} {u u' : Value} {x : List Int} {L : List (List Int)} (h : RowsIX lo w vs L) (hj : vs[j]? = some u) (hu : OwnInts lo w1 u' x) (hg : w.grownBy w1 u.ownBlock) (hat : u'.ownBlock = u.ownBlock ∨ u'.ownBlock = some w.heap.size) : RowsIX lo w1 (vs.set j u') (L.set j x) := by
 have hjl : j < vs.length := (List.getElem?_eq_some_iff.1 hj).1
 have hl := h.len
 have far : ∀ (i : Nat) (v : Value), i ≠ j → vs[i]? = some v → ∀ b, v.ownBlock = some b → u'.ownBlock ≠ some b := fun i v hne e b hb hb2 => by
  rcases hat with hat | hat
  ·
   rw [hat] at hb2
   exact h.apart i j v u hne e hj b hb hb2
  ·
   rw [hat] at hb2
   have := (World.ownsRow.lt (h.own i v e) b hb).2
   injection hb2 with hb2
   omega
 have at2 : ∀ (i : Nat) (v : Value), (vs.set j u')[i]? = some v → (i = j ∧ v = u') ∨ (i ≠ j ∧ vs[i]? = some v) := fun i v e => by
  by_cases ei : i = j
  ·
   subst ei
   rw [List.getElem?_set_self hjl] at e
   exact .inl ⟨rfl, (Option.some.inj e).symm⟩
  ·
   rw [List.getElem?_set_ne (fun e => ei e.symm)] at e
   exact .inr ⟨ei, e⟩
 refine ⟨by simpa using hl, fun i v e => ?_, fun i i' u1 u2 hii e1 e2 b hb1 hb2 => ?_⟩
 ·
  rcases at2 i v e with ⟨rfl, rfl⟩ | ⟨hne, e⟩
  ·
   rw [rw_set_self (by omega)]
   exact hu
  ·
   rw [rw_set_ne hne]
   exact owns_same (h.own i v e) fun b hb => hg.block b (World.ownsRow.lt (h.own i v e) b hb).2 (fun e2 => h.apart i j v u hne e hj b hb e2.symm)
 ·
  rcases at2 i u1 e1 with ⟨d1, d2⟩ | ⟨hne, k1⟩
  ·
   rcases at2 i' u2 e2 with ⟨d3, _⟩ | ⟨hne2, k2⟩
   ·
    exact hii (d1.trans d3.symm)
   ·
    exact far i' u2 hne2 k2 b hb2 (by rw [← d2]; exact hb1)
  ·
   rcases at2 i' u2 e2 with ⟨d3, d4⟩ | ⟨hne2, k2⟩
   ·
    exact far i u1 hne k1 b hb1 (by rw [← d4]; exact hb2)
   ·
    exact h.apart i i' u1 u2 hii k1 k2 b hb1 hb2
theorem RowsIX.snoc {lo : Nat} {w : World} {vs : List Value} {u : Value} {x : List Int} {L : List (List Int)} (h : RowsIX lo w vs L) (hu : OwnInts lo w u x) (hap : ∀ (j : Nat) (u1 : Value), vs[j]? = some u1 → ∀ b, u1.ownBlock = some b → u.ownBlock ≠ some b) : RowsIX lo w (vs ++ [u]) (L ++ [x]) := by
 have hl := h.len
 have two : ∀ i v0, (vs ++ [u])[i]? = some v0 → (i < L.length ∧ vs[i]? = some v0) ∨ (i = L.length ∧ v0 = u) := fun i v0 e => by
  by_cases hi : i < L.length
  ·
   rw [List.getElem?_append_left (by omega)] at e
   exact .inl ⟨hi, e⟩
  ·
   have hlt := (List.getElem?_eq_some_iff.1 e).1
   simp at hlt
   have hi2 : i = vs.length := by omega
   subst hi2
   rw [List.getElem?_append_right (Nat.le_refl _)] at e
   simp at e
   exact .inr ⟨hl, e.symm⟩
 refine ⟨by simp [hl], fun i v e => ?_, fun i j u1 u2 hij e1 e2 b hb1 hb2 => ?_⟩
 ·
  rcases two i v e with ⟨hi, e⟩ | ⟨rfl, rfl⟩
  ·
   rw [rw_snoc_old hi]
   exact h.own i v e
  ·
   rw [rw_snoc_new]
   exact hu
 ·
  rcases two i u1 e1 with ⟨hi, k1⟩ | ⟨d1, d2⟩
  ·
   rcases two j u2 e2 with ⟨hj, k2⟩ | ⟨d3, d4⟩
   ·
    exact h.apart i j u1 u2 hij k1 k2 b hb1 hb2
   ·
    exact hap i u1 k1 b hb1 (by rw [← d4]; exact hb2)
  ·
   rcases two j u2 e2 with ⟨hj, k2⟩ | ⟨d3, _⟩
   ·
    exact hap j u2 k2 b hb2 (by rw [← d2]; exact hb1)
   ·
    exact hij (d1.trans d3.symm)
def OwnAB (lo : Nat) (w : World) (vA vB : Value) (A : List (List Int)) (B : List Int) : Prop := ∃ vs, w.ownsRow lo 25 1 vA A.length vs ∧ RowsIX lo w (vB :: vs) (B :: A)
theorem OwnAB.nil (lo : Nat) (w : World) : OwnAB lo w (.slice none 0 0) (.slice none 0 0) [] [] := by
 refine ⟨[], World.ownsRow_nil _ _ _ _, rfl, fun j u e => ?_, fun i j u v hij e1 e2 => ?_⟩
 ·
  match j with
  | 0 => simp at e; subst e; exact World.ownsRow_nil _ _ _ _
  | j + 1 => simp at e
 ·
  match i, j with
  | 0, 0 => exact absurd rfl hij
  | 0, j + 1 => simp at e2
  | i + 1, _ => simp at e1
theorem OwnAB.shape {lo : Nat} {w : World} {vA vB : Value} {A : List (List Int)} {B : List Int} (h : OwnAB lo w vA vB A B) : (∃ (a : Option Addr) (c : Nat), vA = .slice a A.length c) ∧ ∃ (b : Option Addr) (c : Nat), vB = .slice b B.length c := by
 obtain ⟨vs, ⟨_, hs⟩, h2⟩ := h
 refine ⟨?_, ints_shape (h2.own 0 vB rfl)⟩
 obtain ⟨rfl, e⟩ | ⟨g, cap, cur, rfl, _⟩ := hs
 ·
  exact ⟨none, 0, by rw [e]⟩
 ·
  exact ⟨_, _, rfl⟩
theorem OwnAB.b {lo : Nat} {w : World} {vA vB : Value} {A : List (List Int)} {B : List Int} (h : OwnAB lo w vA vB A B) : OwnInts lo w vB B := by
 obtain ⟨vs, _, h2⟩ := h
 exact h2.own 0 vB rfl
theorem OwnAB.apart {lo : Nat} {w : World} {vA vB : Value} {A : List (List Int)} {B : List Int} (h : OwnAB lo w vA vB A B) : ∀ g, vA.ownBlock = some g → lo ≤ g ∧ g < w.heap.size ∧ TyAt w g 25 := by
 obtain ⟨vs, h1, _⟩ := h
 exact fun g hg => ⟨(World.ownsRow.lt h1 g hg).1, (World.ownsRow.lt h1 g hg).2, owns_ty h1 hg⟩
theorem OwnAB.kept {lo : Nat} {w w' : World} {vA vB : Value} {A : List (List Int)} {B : List Int} (h : OwnAB lo w vA vB A B) (hk : ∀ b, lo ≤ b → b < w.heap.size → (TyAt w b 3 ∨ TyAt w b 25) → w'.heap[b]? = w.heap[b]?) : OwnAB lo w' vA vB A B := by
 obtain ⟨vs, h1, h2⟩ := h
 exact ⟨vs, owns_same h1 fun g hg => hk g (World.ownsRow.lt h1 g hg).1 (World.ownsRow.lt h1 g hg).2 (.inr (owns_ty h1 hg)), h2.kept fun b e1 e2 e3 => hk b e1 e2 (.inl e3)⟩
theorem OwnAB.below {lo : Nat} {w w' : World} {vA vB : Value} {A : List (List Int)} {B : List Int} (h : OwnAB lo w vA vB A B) (hb : Below w.heap.size w w') : OwnAB lo w' vA vB A B :=
 h.kept fun b _ h2 _ => hb.block b h2
theorem OwnAB.only {lo p : Nat} {w w' : World} {vA vB : Value} {A : List (List Int)} {B : List Int} (h : OwnAB lo w vA vB A B) (ho : Only p w w') (hp : p < lo) : OwnAB lo w' vA vB A B :=
 h.kept fun b h1 h2 _ => ho.block (by omega) h2
theorem OwnAB.set {lo q i : Nat} {w : World} {vA vB u : Value} {t : TypeId} {A : List (List Int)} {B : List Int} (h : OwnAB lo w vA vB A B) (hq : TyAt w q t) (h1 : t ≠ 3) (h2 : t ≠ 25) : OwnAB lo (w.setCell ⟨q, i, none⟩ u) vA vB A B :=
 h.kept fun b _ _ hb => Below.heap_setCell _ _ _ _ (by
  rcases hb with hb | hb
  ·
   exact fun e => (TyAt.ne hq hb h1) e.symm
  ·
   exact fun e => (TyAt.ne hq hb h2) e.symm)
theorem OwnAB.grown {lo : Nat} {w w' : World} {vA vB : Value} {row : Option Nat} {t : TypeId} {A : List (List Int)} {B : List Int} (h : OwnAB lo w vA vB A B) (hg : w.grownBy w' row) (hr : ∀ g, row = some g → TyAt w g t) (h1 : t ≠ 3) (h2 : t ≠ 25) : OwnAB lo w' vA vB A B :=
 h.kept fun b _ hlt hb => hg.block b hlt (fun e => by
  rcases hb with hb | hb
  ·
   exact (TyAt.ne (hr b e.symm) hb h1) rfl
  ·
   exact (TyAt.ne (hr b e.symm) hb h2) rfl)
theorem OwnAB.raise {lo B' : Nat} {w : World} {vA vB : Value} {A : List (List Int)} {B : List Int} (h : OwnAB lo w vA vB A B) (hB : B' ≤ lo) : OwnAB B' w vA vB A B := by
 obtain ⟨vs, ⟨e1, e2⟩, h2⟩ := h
 refine ⟨vs, ⟨e1, ?_⟩, h2.len, fun j u e => (h2.own j u e).raise hB, h2.apart⟩
 rcases e2 with e2 | ⟨g', cap, cur, e, hg, rest⟩
 ·
  exact .inl e2
 ·
  exact .inr ⟨g', cap, cur, e, by omega, rest⟩
theorem OwnAB.spot {lo n c j : Nat} {w : World} {a : Option Addr} {vB : Value} {A : List (List Int)} {B : List Int} (h : OwnAB lo w (.slice a n c) vB A B) (hj : j < A.length) :
  ∃ g u, a = some ⟨g, 0, none⟩ ∧ lo ≤ g ∧ g < w.heap.size ∧ w.cell? ⟨g, j, none⟩ = some u ∧ w.frozen? ⟨g, j, none⟩ = false ∧ OwnInts lo w u (rw_ A j) ∧ TyAt w g 25 := by
 obtain ⟨vs, h1, h2⟩ := h
 have hl : vs.length = A.length := by have := h2.len; simpa using this
 have h1' := h1
 obtain ⟨e1, ⟨e, h0⟩ | ⟨g, cap, cur, e, hg, hh, hr⟩⟩ := h1'
 ·
  omega
 ·
  injection e with e2 e3 e4
  subst e2 e3 e4
  have hv : vs[j]? = some vs[j] := List.getElem?_eq_getElem (by omega)
  exact ⟨g, vs[j], rfl, hg, lt_of_at hh, by rw [World.ownsRow.cellAt h1 j (by omega)]; exact hv, World.ownsRow.frozenAt h1 _, h2.own (j + 1) _ hv, owns_ty h1 rfl⟩
theorem OwnAB.reads {lo : Nat} {w : World} {vA vB : Value} {A : List (List Int)} {B : List Int} (h : OwnAB lo w vA vB A B) : ∃ (a : Option Addr) (cap : Nat), vA = .slice a A.length cap ∧ MatIn w.heap.size w a A := by
 obtain ⟨a, cap, rfl⟩ := h.shape.1
 refine ⟨a, cap, rfl, fun j hj => ?_⟩
 obtain ⟨g, u, rfl, _, hgl, hc, _, ho, _⟩ := h.spot hj
 obtain ⟨a2, c2, rfl, hr, ha, _⟩ := own_reads ho
 refine ⟨g, 0, a2, c2, rfl, hgl, by rw [Nat.zero_add]; exact hc, fun i hi => ?_⟩
 exact NumsIn.of_ints (B := w.heap.size) hr (fun p hp => (ha p hp).2) i hi
theorem OwnAB.growB {lo : Nat} {w w1 : World} {vA vB v' : Value} {x : List Int} {A : List (List Int)} {B : List Int} (h : OwnAB lo w vA vB A B) (hu : OwnInts lo w1 v' x) (hg : w.grownBy w1 vB.ownBlock) (hat : v'.ownBlock = vB.ownBlock ∨ v'.ownBlock = some w.heap.size) : OwnAB lo w1 vA v' A x := by
 obtain ⟨vs, h1, h2⟩ := h
 refine ⟨vs, owns_same h1 fun b hb => hg.block b (World.ownsRow.lt h1 b hb).2 (fun e => own_away (h2.own 0 vB rfl) (owns_ty h1 hb) int_ne_ints e.symm), ?_⟩
 exact h2.grew (j := 0) rfl hu hg hat
theorem OwnAB.grew {lo g c n j : Nat} {w w1 : World} {vB u u' : Value} {x : List Int} {A : List (List Int)} {B : List Int} (h : OwnAB lo w (.slice (some ⟨g, 0, none⟩) n c) vB A B) (hj : j < A.length) (hc : w.cell? ⟨g, j, none⟩ = some u) (hu : OwnInts lo w1 u' x) (hg : w.grownBy w1 u.ownBlock) (hat : u'.ownBlock = u.ownBlock ∨ u'.ownBlock = some w.heap.size) :
  OwnAB lo (w1.setCell ⟨g, j, none⟩ u') (.slice (some ⟨g, 0, none⟩) n c) vB (A.set j x) B := by
 obtain ⟨vs, h1, h2⟩ := h
 obtain rfl : n = A.length := by
  obtain ⟨_, ⟨e, _⟩ | ⟨g', cap, cur, e, _⟩⟩ := h1
  ·
   cases e
  ·
   injection e
 have hl : vs.length = A.length := by have := h2.len; simpa using this
 have hvj : vs[j]? = some u := by rw [← World.ownsRow.cellAt h1 j (by omega)]; exact hc
 have h1' : w1.ownsRow lo 25 1 (.slice (some ⟨g, 0, none⟩) A.length c) A.length vs := owns_same h1 fun b hb => hg.block b (World.ownsRow.lt h1 b hb).2 (fun e => own_away (h2.own (j + 1) u hvj) (owns_ty h1 hb) int_ne_ints e.symm)
 have h3 := h2.grew (j := j + 1) hvj hu hg hat
 have hs := World.ownsRow.stored h1' j u'
 refine ⟨vs.set j u', by simpa using hs.1, ?_⟩
 have hty : TyAt w1 g 25 := owns_ty h1' rfl
 exact h3.kept fun b _ _ hb => Below.heap_setCell _ _ _ _ (fun e => TyAt.ne hb hty int_ne_ints e)
theorem OwnAB.snoc {lo : Nat} {w w' : World} {vA v' vB u : Value} {vs : List Value} {A : List (List Int)} {B : List Int} {x : List Int} (h1 : w.ownsRow lo 25 1 vA A.length vs) (h2 : RowsIX lo w (vB :: vs) (B :: A)) (hu : OwnInts lo w u x)
  (hap : ∀ (j : Nat) (u1 : Value), (vB :: vs)[j]? = some u1 → ∀ b, u1.ownBlock = some b → u.ownBlock ≠ some b) (hown : w'.ownsRow lo 25 1 v' (A.length + 1) (vs ++ [u])) (hg : w.grownBy w' vA.ownBlock) : OwnAB lo w' v' vB (A ++ [x]) B := by
 refine ⟨vs ++ [u], by rw [List.length_append]; exact hown, ?_⟩
 have h3 := h2.snoc hu hap
 exact h3.kept fun b _ hlt hb => hg.block b hlt (fun e => TyAt.ne hb (owns_ty h1 e.symm) int_ne_ints rfl)
theorem RowsIX.elem {lo j k b n c : Nat} {w : World} {vs : List Value} {L : List (List Int)} (h : RowsIX lo w vs L) (hj : vs[j]? = some (.slice (some ⟨b, 0, none⟩) n c)) (y : Int) : RowsIX lo (w.setCell ⟨b, k, none⟩ (.int .i64 y)) vs (L.set j ((rw_ L j).set k y)) := by
 have hjl : j < vs.length := (List.getElem?_eq_some_iff.1 hj).1
 have hl := h.len
 refine ⟨by simpa using hl, fun i v e => ?_, h.apart⟩
 by_cases ei : i = j
 ·
  subst ei
  rw [hj] at e
  obtain rfl := Option.some.inj e
  rw [rw_set_self (by omega)]
  have ho := h.own i _ hj
  obtain ⟨a', c', e2⟩ := ints_shape ho
  injection e2 with _ e3 _
  subst e3
  have h9 := own_set ho k y
  rw [List.length_set] at h9
  exact h9
 ·
  rw [rw_set_ne ei]
  exact owns_set (h.own i v e) (fun e2 => h.apart i j v _ ei e hj b e2 rfl)
theorem OwnAB.elem {lo g c n j k b n2 c2 : Nat} {w : World} {vB : Value} {A : List (List Int)} {B : List Int} (h : OwnAB lo w (.slice (some ⟨g, 0, none⟩) n c) vB A B) (hj : j < A.length) (hc : w.cell? ⟨g, j, none⟩ = some (.slice (some ⟨b, 0, none⟩) n2 c2)) (y : Int) :
  OwnAB lo (w.setCell ⟨b, k, none⟩ (.int .i64 y)) (.slice (some ⟨g, 0, none⟩) n c) vB (A.set j ((rw_ A j).set k y)) B := by
 obtain ⟨vs, h1, h2⟩ := h
 obtain rfl : n = A.length := by
  obtain ⟨_, ⟨e, _⟩ | ⟨g', cap, cur, e, _⟩⟩ := h1
  ·
   cases e
  ·
   injection e
 have hl : vs.length = A.length := by have := h2.len; simpa using this
 have hvj : vs[j]? = some (.slice (some ⟨b, 0, none⟩) n2 c2) := by rw [← World.ownsRow.cellAt h1 j (by omega)]; exact hc
 have hbt := owns_ty (h2.own (j + 1) _ hvj) (g := b) rfl
 refine ⟨vs, ?_, h2.elem (j := j + 1) hvj y⟩
 rw [List.length_set]
 exact owns_set h1 (fun e => TyAt.ne hbt (owns_ty h1 e) int_ne_ints rfl)
end Go.Proofs.Ytmjmjilpcekngaa

namespace Go.Proofs.Ytmjmjilpcekngaa
open Go.RowKit
open Ve (R)
theorem lp_ne : 28 ≠ 3 ∧ 28 ≠ 25 ∧ 32 ≠ 3 ∧ 32 ≠ 25 ∧ 32 ≠ 28 ∧ 3 ≠ 28 ∧ 25 ≠ 28 ∧ 3 ≠ 32 ∧ 25 ≠ 32 := by decide
structure LpSt (p q : Nat) (a : Option Addr) (len cap : Nat) (w wr : World) (vA vB vC : Value) (A : List (List Int)) (B : List Int) (C : List R) : Prop where
 hp : p < w.heap.size
 hq : w.heap.size < q
 box : Tri wr q vA vB vC 28
 res : Tri wr w.heap.size (.slice none 0 0) (.slice none 0 0) (.slice none 0 0) 28
 ab : OwnAB w.heap.size wr vA vB A B
 c : OwnRats w.heap.size wr vC C
 cur : Cur wr p a len cap
 only : Only p w wr
section
variable {p q : Nat} {a : Option Addr} {len cap : Nat} {w wr : World} {vA vB vC : Value} {A : List (List Int)} {B : List Int} {C : List R}
theorem LpSt.lt (h : LpSt p q a len cap w wr vA vB vC A B C) : q < wr.heap.size ∧ w.heap.size < wr.heap.size := by
 have h1 := lt_of_at h.box
 have := h.hq
 omega
theorem LpSt.call {w2 : World} (h : LpSt p q a len cap w wr vA vB vC A B C) (ho : Only p wr w2) (hc : Cur w2 p a len cap) : LpSt p q a len cap w w2 vA vB vC A B C := by
 have h1 := h.hp
 have h2 := h.hq
 exact ⟨h1, h2, (ho.block (by omega) (lt_of_at h.box)).trans h.box, (ho.block (by omega) (lt_of_at h.res)).trans h.res, h.ab.only ho h1, owns_same h.c fun g hg => ho.block (by have := (World.ownsRow.lt h.c g hg).1; omega) (World.ownsRow.lt h.c g hg).2, hc, h.only.trans ho⟩
theorem LpSt.below {w2 : World} (h : LpSt p q a len cap w wr vA vB vC A B C) (hb : Below wr.heap.size wr w2) : LpSt p q a len cap w w2 vA vB vC A B C :=
 h.call (Only.of_below hb (by have := h.hp; have := h.lt; omega)) (h.cur.below hb)
theorem LpSt.alloc (h : LpSt p q a len cap w wr vA vB vC A B C) (o : Obj) : LpSt p q a len cap w (wr.alloc o) vA vB vC A B C := h.below ((Below.refl _ _).alloc (Nat.le_refl _) o)
theorem LpSt.triC {w3 : World} (h : LpSt p q a len cap w wr vA vB vC A B C) (hg : wr.grownBy w3 vC.ownBlock) : Tri w3 q vA vB vC 28 :=
 (hg.block q (lt_of_at h.box) (fun e => own_away h.c (tri_ty h.box) lp_ne.2.2.2.2.1 e.symm)).trans h.box
theorem LpSt.triB {w3 : World} (h : LpSt p q a len cap w wr vA vB vC A B C) (hg : wr.grownBy w3 vB.ownBlock) : Tri w3 q vA vB vC 28 :=
 (hg.block q (lt_of_at h.box) (fun e => own_away h.ab.b (tri_ty h.box) lp_ne.2.2.2.2.2.1 e.symm)).trans h.box
theorem LpSt.triA {w3 : World} (h : LpSt p q a len cap w wr vA vB vC A B C) (hg : wr.grownBy w3 vA.ownBlock) : Tri w3 q vA vB vC 28 :=
 (hg.block q (lt_of_at h.box) (fun e => TyAt.ne (h.ab.apart q e.symm).2.2 (tri_ty h.box) lp_ne.2.2.2.2.2.2.1 rfl)).trans h.box
theorem LpSt.putC {w3 : World} {vC' : Value} {C' : List R} (h : LpSt p q a len cap w wr vA vB vC A B C) (hg : wr.grownBy w3 vC.ownBlock) (hC : OwnRats w.heap.size w3 vC' C') : LpSt p q a len cap w (w3.setCell ⟨q, 2, none⟩ vC') vA vB vC' A B C' := by
 have h1 := h.hp
 have h2 := h.hq
 have t := h.triC hg
 have hlo : ∀ g, vC.ownBlock = some g → w.heap.size ≤ g := fun g hg' => (World.ownsRow.lt h.c g hg').1
 have r : Tri w3 w.heap.size (.slice none 0 0) (.slice none 0 0) (.slice none 0 0) 28 := (hg.block _ (lt_of_at h.res) (fun e => own_away h.c (tri_ty h.res) lp_ne.2.2.2.2.1 e.symm)).trans h.res
 exact ⟨h1, h2, t.set2 vC', r.other (p := ⟨q, 2, none⟩) (show q ≠ w.heap.size by omega) vC',
  (h.ab.grown hg (fun g hg' => owns_ty h.c hg') lp_ne.2.2.1 lp_ne.2.2.2.1).set (tri_ty t) lp_ne.1 lp_ne.2.1, owns_set hC (own_away hC (tri_ty t) lp_ne.2.2.2.2.1),
  (h.cur.grown hg (fun e => by have := hlo p e; omega)).setOwn (show p ≠ q by omega) 2 vC', (h.only.grown (by omega) hg hlo).setOwn (by omega) (show w.heap.size ≤ q by omega) 2 vC'⟩
theorem LpSt.putB {w3 : World} {vB' : Value} {B' : List Int} (h : LpSt p q a len cap w wr vA vB vC A B C) (hg : wr.grownBy w3 vB.ownBlock) (hB : OwnInts w.heap.size w3 vB' B') (hat : vB'.ownBlock = vB.ownBlock ∨ vB'.ownBlock = some wr.heap.size) : LpSt p q a len cap w (w3.setCell ⟨q, 1, none⟩ vB') vA vB' vC A B' C := by
 have h1 := h.hp
 have h2 := h.hq
 have t := h.triB hg
 have hlo : ∀ g, vB.ownBlock = some g → w.heap.size ≤ g := fun g hg' => (World.ownsRow.lt h.ab.b g hg').1
 have r : Tri w3 w.heap.size (.slice none 0 0) (.slice none 0 0) (.slice none 0 0) 28 := (hg.block _ (lt_of_at h.res) (fun e => own_away h.ab.b (tri_ty h.res) lp_ne.2.2.2.2.2.1 e.symm)).trans h.res
 have c3 : OwnRats w.heap.size w3 vC C := owns_same h.c fun g hg' => hg.block g (World.ownsRow.lt h.c g hg').2 (fun e => own_away h.ab.b (owns_ty h.c hg') lp_ne.2.2.2.2.2.2.2.1 e.symm)
 exact ⟨h1, h2, t.set1 vB', r.other (p := ⟨q, 1, none⟩) (show q ≠ w.heap.size by omega) vB',
  (h.ab.growB hB hg hat).set (tri_ty t) lp_ne.1 lp_ne.2.1, owns_set c3 (own_away c3 (tri_ty t) lp_ne.2.2.2.2.1),
  (h.cur.grown hg (fun e => by have := hlo p e; omega)).setOwn (show p ≠ q by omega) 1 vB', (h.only.grown (by omega) hg hlo).setOwn (by omega) (show w.heap.size ≤ q by omega) 1 vB'⟩
theorem LpSt.putA {w3 : World} {vA' : Value} {A' : List (List Int)} (h : LpSt p q a len cap w wr vA vB vC A B C) (hg : wr.grownBy w3 vA.ownBlock) (hA : OwnAB w.heap.size w3 vA' vB A' B) : LpSt p q a len cap w (w3.setCell ⟨q, 0, none⟩ vA') vA' vB vC A' B C := by
 have h1 := h.hp
 have h2 := h.hq
 have t := h.triA hg
 have hlo : ∀ g, vA.ownBlock = some g → w.heap.size ≤ g := fun g hg' => (h.ab.apart g hg').1
 have r : Tri w3 w.heap.size (.slice none 0 0) (.slice none 0 0) (.slice none 0 0) 28 := (hg.block _ (lt_of_at h.res) (fun e => TyAt.ne (h.ab.apart _ e.symm).2.2 (tri_ty h.res) lp_ne.2.2.2.2.2.2.1 rfl)).trans h.res
 have c3 : OwnRats w.heap.size w3 vC C := owns_same h.c fun g hg' => hg.block g (World.ownsRow.lt h.c g hg').2 (fun e => TyAt.ne (h.ab.apart g e.symm).2.2 (owns_ty h.c hg') lp_ne.2.2.2.2.2.2.2.2 rfl)
 exact ⟨h1, h2, t.set0 vA', r.other (p := ⟨q, 0, none⟩) (show q ≠ w.heap.size by omega) vA',
  hA.set (tri_ty t) lp_ne.1 lp_ne.2.1, owns_set c3 (own_away c3 (tri_ty t) lp_ne.2.2.2.2.1),
  (h.cur.grown hg (fun e => by have := hlo p e; omega)).setOwn (show p ≠ q by omega) 0 vA', (h.only.grown (by omega) hg hlo).setOwn (by omega) (show w.heap.size ≤ q by omega) 0 vA'⟩
theorem LpSt.putRow {g n c j : Nat} {w3 : World} {u u' : Value} {x : List Int} (h : LpSt p q a len cap w wr (.slice (some ⟨g, 0, none⟩) n c) vB vC A B C) (hj : j < A.length) (hc : wr.cell? ⟨g, j, none⟩ = some u) (hg : wr.grownBy w3 u.ownBlock) (hu : OwnInts w.heap.size w3 u' x) (hat : u'.ownBlock = u.ownBlock ∨ u'.ownBlock = some wr.heap.size) :
  LpSt p q a len cap w (w3.setCell ⟨g, j, none⟩ u') (.slice (some ⟨g, 0, none⟩) n c) vB vC (A.set j x) B C ∧ Tri w3 q (.slice (some ⟨g, 0, none⟩) n c) vB vC 28 ∧ w3.cell? ⟨g, j, none⟩ = some u ∧ w3.frozen? ⟨g, j, none⟩ = false := by
 obtain rfl : n = A.length := by
  obtain ⟨⟨_, _, e⟩, _⟩ := h.ab.shape
  injection e
 have h1 := h.hp
 have h2 := h.hq
 obtain ⟨g', u0, e1, hgl, hgs, hc', hf, hou, hty⟩ := h.ab.spot hj
 obtain rfl : g = g' := by simpa using e1
 rw [hc] at hc'
 obtain rfl := Option.some.inj hc'
 have hlo : ∀ b, u.ownBlock = some b → w.heap.size ≤ b := fun b hb => (World.ownsRow.lt hou b hb).1
 have t : Tri w3 q (.slice (some ⟨g, 0, none⟩) A.length c) vB vC 28 := (hg.block q (lt_of_at h.box) (fun e => own_away hou (tri_ty h.box) lp_ne.2.2.2.2.2.1 e.symm)).trans h.box
 have r : Tri w3 w.heap.size (.slice none 0 0) (.slice none 0 0) (.slice none 0 0) 28 := (hg.block _ (lt_of_at h.res) (fun e => own_away hou (tri_ty h.res) lp_ne.2.2.2.2.2.1 e.symm)).trans h.res
 have c3 : OwnRats w.heap.size w3 vC C := owns_same h.c fun b hb => hg.block b (World.ownsRow.lt h.c b hb).2 (fun e => own_away hou (owns_ty h.c hb) lp_ne.2.2.2.2.2.2.2.1 e.symm)
 have hgb : w3.heap[g]? = wr.heap[g]? := hg.block g hgs (fun e => own_away hou hty int_ne_ints e.symm)
 have hgq : g ≠ q := TyAt.ne hty (tri_ty h.box) lp_ne.2.2.2.2.2.2.1
 have hgr : g ≠ w.heap.size := TyAt.ne hty (tri_ty h.res) lp_ne.2.2.2.2.2.2.1
 refine ⟨⟨h1, h2, t.other (p := ⟨g, j, none⟩) hgq u', r.other (p := ⟨g, j, none⟩) hgr u', h.ab.grew hj hc hu hg hat,
  owns_set c3 (own_away c3 (hty.same hgb) lp_ne.2.2.2.1), (h.cur.grown hg (fun e => by have := hlo p e; omega)).setOwn (show p ≠ g by omega) j u', (h.only.grown (by omega) hg hlo).setOwn (by omega) (show w.heap.size ≤ g by omega) j u'⟩, t, ?_, ?_⟩
 ·
  rw [World.cell?_of_block (w := wr) (a := ⟨g, j, none⟩) hgb]; exact hc
 ·
  obtain ⟨vs, k1, _⟩ := h.ab
  have k3 : w3.ownsRow w.heap.size 25 1 (.slice (some ⟨g, 0, none⟩) A.length c) A.length vs := owns_same k1 fun b hb => by
   obtain rfl : g = b := by simpa [Value.ownBlock] using hb
   exact hgb
  exact World.ownsRow.frozenAt k3 j
end
theorem OwnAB.later {lo p : Nat} {wx w' : World} {vA vB : Value} {A : List (List Int)} {B : List Int} (h : OwnAB lo wx vA vB A B) (ho : Only p wx w') (hp : p < lo) :
  ∃ vs, w'.ownsRow lo 25 1 vA A.length vs ∧ RowsIX lo w' (vB :: vs) (B :: A) ∧ ∀ (j : Nat) (u1 : Value), (vB :: vs)[j]? = some u1 → ∀ b, u1.ownBlock = some b → b < wx.heap.size := by
 obtain ⟨vs, h1, h2⟩ := h
 exact ⟨vs, owns_same h1 fun g hg => ho.block (by have := (World.ownsRow.lt h1 g hg).1; omega) (World.ownsRow.lt h1 g hg).2, h2.kept fun b e1 e2 _ => ho.block (by omega) e2, fun j u1 e b hb => (World.ownsRow.lt (h2.own j u1 e) b hb).2⟩
theorem wpList_append_rowI {w : World} {ops : Array Oper} {rest : List Oper} {o : Oper} {a : Act} {Q : Exit → Act → World → Prop} (hg : o.guard = none) (s x : Operand)
  (hop : o.op = Op.call { callee := Callee.builtin Builtin.append, args := #[s, x], argTypes := #[24, 24] }) (lo : Nat) (vA vB : Value) (A : List (List Int)) (B : List Int) (vs : List Value) (hs : a.eval s = vA) (hown : w.ownsRow lo 25 1 vA A.length vs) (hrows : RowsIX lo w (vB :: vs) (B :: A))
  (q : Nat) (u : Value) (r : List Int) (hx : a.eval x = .slice (some ⟨q, 0, none⟩) 1 1) (hq : w.cell? ⟨q, 0, none⟩ = some u) (hu : OwnInts lo w u r) (hap : ∀ (j : Nat) (u1 : Value), (vB :: vs)[j]? = some u1 → ∀ b, u1.ownBlock = some b → u.ownBlock ≠ some b) (hlen : A.length ≤ 4000000) (hB : lo ≤ w.heap.size)
  (hK : ∀ v' w', OwnAB lo w' v' vB (A ++ [r]) B → w.grownBy w' vA.ownBlock → wpList Try.prog ops Q rest (a.put o.dst v') w') : wpList Try.prog ops Q (o :: rest) a w := by
 obtain ⟨i0, hi, hz0, hz1, hz2⟩ := info_parts info_ints
 refine wpList_append_own w hg s x 24 hop lo 25 i0 (.slice none 0 0) 1 24 Try.underlying24 hi hz0 hz1 hz2 rfl (by decide) vA A.length vs hs hown ⟨q, 0, none⟩ 1 1 [u] hx rfl ?_ ?_ (by unfold maxLen; omega) (by omega) hB ?_
 ·
  intro j u' hj
  match j with
  | 0 => simp at hj; subst hj; simpa [Addr.add] using hq
  | j + 1 => simp at hj
 ·
  intro u' hu'
  simp at hu'
  subst hu'
  obtain ⟨a', c', rfl, _⟩ := own_reads hu
  rfl
 ·
  intro v' w' h3 h4 _
  exact hK v' w' (OwnAB.snoc hown hrows hu hap h3 h4) h4
theorem step_append_ratsD {w : World} {ops : Array Oper} {o : Oper} {a : Act} {K : Act → World → Prop} {Q : Exit → Act → World → Prop} {E : Prop} (hgd : o.guard = none) (s x : Operand)
  (hop : o.op = Op.call { callee := Callee.builtin Builtin.append, args := #[s, x], argTypes := #[26, 26] }) (B : Nat) (v : Value) (xs : List R) (hs : a.eval s = v) (hown : OwnRats B w v xs) (b o1 : Nat) (ys : List R) (n c : Nat) (hn : n = ys.length) (hx : a.eval x = .slice (some ⟨b, o1, none⟩) n c)
  (n0 : Nat) (hr : RatsIn n0 w (some ⟨b, o1, none⟩) ys) (hlen : xs.length + ys.length ≤ 4000000) (hB : B ≤ w.heap.size) (hK : ∀ v' w', OwnRats B w' v' (xs ++ ys) → w.grownBy w' v.ownBlock → K (a.put o.dst v') w') : if Region.wanted o (yielded ops a.tmps) = true then Oper.wp Try.prog o a w K Q else E := by
 have hw : Region.wanted o (yielded ops a.tmps) = true := by simp [Region.wanted, hgd]
 rw [if_pos hw]
 subst hn
 obtain ⟨i0, hi, hz0, hz1, hz2⟩ := info_parts info_rat
 refine wp_append_own w s x 26 hop B 32 i0 (.agg #[.int .i64 0, .int .i64 0]) 2 16 Try.underlying26 hi hz0 hz1 hz2 rfl (by decide) v xs.length (cellsR xs) hs hown ⟨b, o1, none⟩ ys.length c (cellsR ys) hx (cellsR_len ys) (fun j u hj => ratsIn_cells hr j u hj) (fun u hu => cells_one ys u hu) (by unfold maxLen; omega) (by omega) hB ?_
 intro v' w' h1 h2 _
 refine hK v' w' ?_ h2
 unfold OwnRats
 rw [List.length_append, cells_append]
 exact h1
theorem bit_any (b : Bool) (w : World) : Calls Try.prog 66 #[.bool b] w fun e w' => (∃ x : Int, e = .returned (.int .i64 x) ∧ 0 ≤ x ∧ x ≤ 1) ∧ w' = w := by
 refine (spec_l1Bit b w).mono ?_
 rintro e w' ⟨rfl, rfl⟩
 exact ⟨⟨_, rfl, by cases b <;> decide, by cases b <;> decide⟩, rfl⟩
theorem step_append_int_at {w : World} {ops : Array Oper} {o : Oper} {a : Act} {K : Act → World → Prop} {Q : Exit → Act → World → Prop} {E : Prop} (hgd : o.guard = none) (s x : Operand)
  (hop : o.op = Op.call { callee := Callee.builtin Builtin.append, args := #[s, x], argTypes := #[25, 25] }) (B : Nat) (v : Value) (xs : List Int) (hs : a.eval s = v) (hown : OwnInts B w v xs) (b : Nat) (y : Int) (hx : a.eval x = .slice (some ⟨b, 0, none⟩) 1 1)
  (hr : w.cell? ⟨b, 0, none⟩ = some (.int .i64 y)) (hlen : xs.length ≤ 4000000) (hB : B ≤ w.heap.size) (hK : ∀ v' w', OwnInts B w' v' (xs ++ [y]) → w.grownBy w' v.ownBlock → (v'.ownBlock = v.ownBlock ∨ v'.ownBlock = some w.heap.size) → K (a.put o.dst v') w') : if Region.wanted o (yielded ops a.tmps) = true then Oper.wp Try.prog o a w K Q else E := by
 have hw : Region.wanted o (yielded ops a.tmps) = true := by simp [Region.wanted, hgd]
 rw [if_pos hw]
 obtain ⟨i0, hi, hz0, hz1, hz2⟩ := info_parts info_int
 obtain ⟨v', w', hrun, h2, h3, _, h5⟩ := run_append_own_at (P := Try.prog) w B 25 o.type 3 i0 (.int .i64 0) 1 8 Try.underlying25 hi hz0 hz1 hz2 rfl (by decide) v xs.length (xs.map (Value.int .i64)) hown ⟨b, 0, none⟩ 1 1 [.int .i64 y] rfl (by
  intro j u' hj
  match j with
  | 0 => simp at hj; subst hj; simpa [Addr.add] using hr
  | j + 1 => simp at hj) (by
  intro u' hu'
  simp at hu'
  subst hu'
  rfl) (by unfold maxLen; omega) (by omega) hB
 unfold Oper.wp execOp
 simp only [hop, resolve, invoke, builtin, Sem.run_bind, Sem.run_pure, Result.andThen_ok, List.map_toArray, List.map_cons, List.map_nil, hs, hx, hrun]
 refine hK v' w' ?_ h3 h5
 unfold OwnInts
 rw [List.length_append, List.map_append]
 exact h2
theorem wpList_append_int_at {w : World} {ops : Array Oper} {rest : List Oper} {o : Oper} {a : Act} {Q : Exit → Act → World → Prop} (hgd : o.guard = none) (s x : Operand)
  (hop : o.op = Op.call { callee := Callee.builtin Builtin.append, args := #[s, x], argTypes := #[25, 25] }) (B : Nat) (v : Value) (xs : List Int) (hs : a.eval s = v) (hown : OwnInts B w v xs) (b : Nat) (y : Int) (hx : a.eval x = .slice (some ⟨b, 0, none⟩) 1 1)
  (hr : w.cell? ⟨b, 0, none⟩ = some (.int .i64 y)) (hlen : xs.length ≤ 4000000) (hB : B ≤ w.heap.size) (hK : ∀ v' w', OwnInts B w' v' (xs ++ [y]) → w.grownBy w' v.ownBlock → (v'.ownBlock = v.ownBlock ∨ v'.ownBlock = some w.heap.size) → wpList Try.prog ops Q rest (a.put o.dst v') w') : wpList Try.prog ops Q (o :: rest) a w := by
 obtain ⟨i0, hi, hz0, hz1, hz2⟩ := info_parts info_int
 refine wpList_append_own_at w hgd s x 25 hop B 3 i0 (.int .i64 0) 1 8 Try.underlying25 hi hz0 hz1 hz2 rfl (by decide) v xs.length (xs.map (Value.int .i64)) hs hown ⟨b, 0, none⟩ 1 1 [.int .i64 y] hx rfl (by
  intro j u' hj
  match j with
  | 0 => simp at hj; subst hj; simpa [Addr.add] using hr
  | j + 1 => simp at hj) (by
  intro u' hu'
  simp at hu'
  subst hu'
  rfl) (by unfold maxLen; omega) (by omega) hB ?_
 intro v' w' h2 h3 _ h5
 refine hK v' w' ?_ h3 h5
 unfold OwnInts
 rw [List.length_append, List.map_append]
 exact h2
theorem LpSt.putElem {p q : Nat} {a : Option Addr} {len cap : Nat} {w wr : World} {vB vC : Value} {A : List (List Int)} {B : List Int} {C : List R} {g c n j k b n2 c2 : Nat} (h : LpSt p q a len cap w wr (.slice (some ⟨g, 0, none⟩) n c) vB vC A B C) (hj : j < A.length) (hc : wr.cell? ⟨g, j, none⟩ = some (.slice (some ⟨b, 0, none⟩) n2 c2)) (hk : k < (rw_ A j).length) (y : Int) :
  LpSt p q a len cap w (wr.setCell ⟨b, k, none⟩ (.int .i64 y)) (.slice (some ⟨g, 0, none⟩) n c) vB vC (A.set j ((rw_ A j).set k y)) B C ∧ (∃ z, wr.cell? ⟨b, k, none⟩ = some (.int .i64 z)) ∧ wr.frozen? ⟨b, k, none⟩ = false := by
 have h1 := h.hp
 have h2 := h.hq
 obtain ⟨g', u, e1, hgl, hgs, hc', hf, hou, hty⟩ := h.ab.spot hj
 obtain rfl : g = g' := by simpa using e1
 rw [hc] at hc'
 obtain rfl := Option.some.inj hc'
 obtain rfl : n2 = (rw_ A j).length := by
  obtain ⟨_, _, e⟩ := ints_shape hou
  injection e
 have hbl := World.ownsRow.lt hou b rfl
 have hbt := owns_ty hou (g := b) rfl
 have hbq : b ≠ q := TyAt.ne hbt (tri_ty h.box) lp_ne.2.2.2.2.2.1
 have hbr : b ≠ w.heap.size := TyAt.ne hbt (tri_ty h.res) lp_ne.2.2.2.2.2.1
 refine ⟨⟨h1, h2, h.box.other (p := ⟨b, k, none⟩) hbq _, h.res.other (p := ⟨b, k, none⟩) hbr _, h.ab.elem hj hc y, owns_set h.c (own_away h.c hbt lp_ne.2.2.1), h.cur.setOwn (show p ≠ b by omega) k _, h.only.setOwn (by omega) (show w.heap.size ≤ b by omega) k _⟩, ?_, World.ownsRow.frozenAt hou k⟩
 rw [World.ownsRow.cellAt hou k (by omega), List.getElem?_map, List.getElem?_eq_getElem hk]
 exact ⟨_, rfl⟩
end Go.Proofs.Ytmjmjilpcekngaa

namespace Go.Proofs.Ytmjmjilpcekngaa
open Go.RowKit
open Ve (R)
def num5 : List Int := [0, 0, 1, 1, 2, -1, -2, 3, 5, -4]
def den5 : List Int := [1, 1, 1, 2]
def rhs5 : List Int := [0, 1, 4, 6, 7, -2, 10]
theorem num5_cells : (num5.map (Value.int .i64)).toArray = #[.int .i64 0, .int .i64 0, .int .i64 1, .int .i64 1, .int .i64 2, .int .i64 (-1), .int .i64 (-2), .int .i64 3, .int .i64 5, .int .i64 (-4)] := rfl
theorem den5_cells : (den5.map (Value.int .i64)).toArray = #[.int .i64 1, .int .i64 1, .int .i64 1, .int .i64 2] := rfl
theorem rhs5_cells : (rhs5.map (Value.int .i64)).toArray = #[.int .i64 0, .int .i64 1, .int .i64 4, .int .i64 6, .int .i64 7, .int .i64 (-2), .int .i64 10] := rfl
theorem vld5 {x d : Int} (hx : x ∈ num5) (hd : d ∈ den5) : Ve.vld (Ra.rn x d, Ra.rd x d) = true := by
 have h : ∀ x ∈ num5, ∀ d ∈ den5, Ve.vld (Ra.rn x d, Ra.rd x d) = true := by decide +kernel
 exact h x hx d hd
theorem small5 {x : Int} (hx : x ∈ num5) : -5000 ≤ x ∧ x ≤ 5000 := by
 have h : ∀ x ∈ num5, -5000 ≤ x ∧ x ≤ 5000 := by decide
 exact h x hx
theorem small5r {x : Int} (hx : x ∈ rhs5) : -5000 ≤ x ∧ x ≤ 5000 := by
 have h : ∀ x ∈ rhs5, -5000 ≤ x ∧ x ≤ 5000 := by decide
 exact h x hx
theorem small_snoc {l : List Int} {x : Int} (h : Lp.small l = true) (hx : -5000 ≤ x ∧ x ≤ 5000) : Lp.small (l ++ [x]) = true := by
 unfold Lp.small at h ⊢
 rw [List.all_append, h]
 simpa using hx
theorem good_snoc {l : List R} {x : R} (h : Ve.good l = true) (hx : Ve.vld x = true) : Ve.good (l ++ [x]) = true := by
 unfold Ve.good at h ⊢
 rw [List.all_append, h]
 simpa using hx
structure Sized (n k : Nat) (A : List (List Int)) (B : List Int) : Prop where
 la : A.length = k
 ra : ∀ j, j < k → (rw_ A j).length = n ∧ Lp.small (rw_ A j) = true
 lb : B.length = k
 sb : Lp.small B = true
theorem Sized.next {n k : Nat} {A : List (List Int)} {B zs : List Int} {y : Int} (h : Sized n k A B) (hz : zs.length = n) (hs : Lp.small zs = true) (hy : -5000 ≤ y ∧ y ≤ 5000) : Sized n (k + 1) (A ++ [zs]) (B ++ [y]) := by
 refine ⟨by simp [h.la], fun j hj => ?_, by simp [h.lb], small_snoc h.sb hy⟩
 by_cases e : j < k
 ·
  rw [rw_snoc_old (by rw [h.la]; exact e)]
  exact h.ra j e
 ·
  have e2 : j = A.length := by rw [h.la]; omega
  subst e2
  rw [rw_snoc_new]
  exact ⟨hz, hs⟩
theorem Sized.vld {n m : Nat} {A : List (List Int)} {B : List Int} {C : List R} (h : Sized n m A B) (hm : m ≤ 3) (hn : n ≤ 6) (hc : C.length = n) (hg : Ve.good C = true) : Lp.vldP ⟨A, B, C⟩ = true := by
 unfold Lp.vldP
 have h1 : Lp.rows ⟨A, B, C⟩ = true := by
  unfold Lp.rows
  rw [List.all_eq_true]
  intro j hj
  have hj2 : j < m := by have := h.la; simpa [this] using hj
  obtain ⟨a1, a2⟩ := h.ra j hj2
  have e1 : Lp.row ⟨A, B, C⟩ j = rw_ A j := rfl
  rw [e1, a2]
  simp [a1, hc]
 have := h.la
 have := h.lb
 simp only [h1, h.sb, hg, Bool.and_eq_true, decide_eq_true_eq, true_and, and_true]
 omega
structure Slack (n k m : Nat) (A : List (List Int)) : Prop where
 la : A.length = m
 lo : ∀ j, j < k → j < m → (rw_ A j).length = n + 1 ∧ Lp.small (rw_ A j) = true
 hi : ∀ j, k ≤ j → j < m → (rw_ A j).length = n ∧ Lp.small (rw_ A j) = true
theorem Sized.slack {n m : Nat} {A : List (List Int)} {B : List Int} (h : Sized n m A B) : Slack n 0 m A := ⟨h.la, fun j hj => absurd hj (by omega), fun j _ hj => h.ra j hj⟩
theorem Slack.done {n k m : Nat} {A A0 : List (List Int)} {B : List Int} (h : Slack n k m A) (hk : m ≤ k) (h0 : Sized n m A0 B) : Sized (n + 1) m A B := ⟨h.la, fun j hj => h.lo j (by omega) hj, h0.lb, h0.sb⟩
theorem Slack.next {n k m : Nat} {A : List (List Int)} {y : Int} (h : Slack n k m A) (hk : k < m) (hy : -5000 ≤ y ∧ y ≤ 5000) : Slack n (k + 1) m (A.set k (rw_ A k ++ [y])) := by
 have hkl : k < A.length := by rw [h.la]; exact hk
 refine ⟨by simp [h.la], fun j hj hm => ?_, fun j hj hm => ?_⟩
 ·
  by_cases e : j = k
  ·
   subst e
   rw [rw_set_self hkl]
   obtain ⟨a1, a2⟩ := h.hi j (Nat.le_refl _) hm
   exact ⟨by simp [a1], small_snoc a2 hy⟩
  ·
   rw [rw_set_ne e]
   exact h.lo j (by omega) hm
 ·
  rw [rw_set_ne (by omega)]
  exact h.hi j (by omega) hm
theorem LpSt.fin {p q : Nat} {a : Option Addr} {len cap : Nat} {w wr : World} {vA vB vC : Value} {A : List (List Int)} {B : List Int} {C : List R} (h : LpSt p q a len cap w wr vA vB vC A B C) :
  Tri (((wr.setCell ⟨w.heap.size, 0, none⟩ vA).setCell ⟨w.heap.size, 1, none⟩ vB).setCell ⟨w.heap.size, 2, none⟩ vC) w.heap.size vA vB vC 28 ∧
  OwnAB w.heap.size (((wr.setCell ⟨w.heap.size, 0, none⟩ vA).setCell ⟨w.heap.size, 1, none⟩ vB).setCell ⟨w.heap.size, 2, none⟩ vC) vA vB A B ∧
  OwnRats w.heap.size (((wr.setCell ⟨w.heap.size, 0, none⟩ vA).setCell ⟨w.heap.size, 1, none⟩ vB).setCell ⟨w.heap.size, 2, none⟩ vC) vC C ∧
  Cur (((wr.setCell ⟨w.heap.size, 0, none⟩ vA).setCell ⟨w.heap.size, 1, none⟩ vB).setCell ⟨w.heap.size, 2, none⟩ vC) p a len cap ∧
  Only p w (((wr.setCell ⟨w.heap.size, 0, none⟩ vA).setCell ⟨w.heap.size, 1, none⟩ vB).setCell ⟨w.heap.size, 2, none⟩ vC) := by
 have h1 := h.hp
 have t0 := h.res.set0 vA
 have t1 := t0.set1 vB
 have hc := own_away h.c (tri_ty h.res) lp_ne.2.2.2.2.1
 refine ⟨t1.set2 vC, ((h.ab.set (tri_ty h.res) lp_ne.1 lp_ne.2.1).set (tri_ty t0) lp_ne.1 lp_ne.2.1).set (tri_ty t1) lp_ne.1 lp_ne.2.1, owns_set (owns_set (owns_set h.c hc) hc) hc, ?_, ?_⟩
 ·
  exact ((h.cur.setOwn (show p ≠ w.heap.size by omega) 0 vA).setOwn (show p ≠ w.heap.size by omega) 1 vB).setOwn (show p ≠ w.heap.size by omega) 2 vC
 ·
  exact ((h.only.setOwn (by omega) (Nat.le_refl _) 0 vA).setOwn (by omega) (Nat.le_refl _) 1 vB).setOwn (by omega) (Nat.le_refl _) 2 vC
theorem spec_l5Number (B p : Nat) (a : Option Addr) (len cap : Nat) (w : World) (hB : B ≤ p) (hcur : Cur w p a len cap) (hcode : CodeAt B w a len) :
  Calls Try.prog 93 #[.pointer (some ⟨p, 0, none⟩)] w (PickedIn num5 p a len cap w) := by
 have Hc := zH hcode
 have Hu := zH hcur
 clear hcode hcur
 go_enter Try.func93, Try.ntmps93
 go_wp2_with fail
 refine (pick_in B p a len cap 10 num5 _ num5_cells 10 rfl (by decide) (by decide) w hB Hu.out Hc.out _ rfl).mono ?_
 rintro e w1 ⟨x, rfl, hm, hc1, ho1⟩
 have H1 := zH hm
 have H2 := zH hc1
 have H3 := zH ho1
 clear hm hc1 ho1
 go_wp2_with fail
 go_ret
 exact ⟨x, rfl, H1.out, H2.out, H3.out⟩
def DrewLP (p : Nat) (a : Option Addr) (len cap : Nat) (w : World) (e : Ending) (w' : World) : Prop :=
 ∃ (vA vB vC : Value) (A : List (List Int)) (B : List Int) (C : List R), e = .returned (.agg #[vA, vB, vC]) ∧ Lp.vldP ⟨A, B, C⟩ = true ∧ (1 ≤ A.length ∧ A.length ≤ 3 ∧ 1 ≤ C.length ∧ C.length ≤ 6) ∧ OwnAB w.heap.size w' vA vB A B ∧ OwnRats w.heap.size w' vC C ∧ Cur w' p a len cap ∧ Only p w w'
set_option maxHeartbeats 4000000 in
theorem spec_l5Draw (B p : Nat) (a : Option Addr) (len cap : Nat) (w : World) (hB : B ≤ p) (hcur : Cur w p a len cap) (hcode : CodeAt B w a len) :
  Calls Try.prog 59 #[.pointer (some ⟨p, 0, none⟩)] w (DrewLP p a len cap w) := by
 have hp := hcur.lt
 have Hc := zH hcode
 have HU0 := zH (hcur.alloc (.cells #[.slice none 0 0, .slice none 0 0, .slice none 0 0] 28))
 have HN0 := zH (Tri.new w (.slice none 0 0) (.slice none 0 0) (.slice none 0 0) 28)
 have HO0 := zH ((Only.refl p w).alloc (by omega) (.cells #[.slice none 0 0, .slice none 0 0, .slice none 0 0] 28))
 clear hcur hcode
 go_enter Try.func59, Try.ntmps59
 go_wp2_with fail
 refine (spec_l1Below B p a len cap 3 (by decide) (by decide) _ hB HU0.out (Hc.out.below (HO0.out.low.mono hB))).mono ?_
 rintro e w1 ⟨x, rfl, hx0, hx1, hc1, ho1⟩
 obtain ⟨n, hn⟩ : ∃ n : Nat, 1 + x = n := ⟨(1 + x).toNat, by omega⟩
 have hn1 : 1 ≤ n := by omega
 have hn3 : n ≤ 3 := by omega
 have hx : x = (n : Int) - 1 := by omega
 subst hx
 have HU1 := zH hc1
 have HO1 := zH (HO0.out.trans ho1)
 have HN1 : Hid (Tri w1 w.heap.size (.slice none 0 0) (.slice none 0 0) (.slice none 0 0) 28) := (ho1.block (by omega) (lt_of_at HN0.out)).trans HN0.out
 have Hadd : Hid ((1 : Int) + ((n : Int) - 1) = n) := by show _ = _; omega
 clear hc1 ho1 hn hx0 hx1 HU0 HO0 HN0
 go_wp2_with fail
 try rw [Hadd.out]
 refine (spec_l1Below B p a len cap 3 (by decide) (by decide) _ hB HU1.out (Hc.out.below (HO1.out.low.mono hB))).mono ?_
 rintro e w2 ⟨x, rfl, hx0, hx1, hc1, ho1⟩
 obtain ⟨m, hm⟩ : ∃ m : Nat, 1 + x = m := ⟨(1 + x).toNat, by omega⟩
 have hm1 : 1 ≤ m := by omega
 have hm3 : m ≤ 3 := by omega
 have hx : x = (m : Int) - 1 := by omega
 subst hx
 have HU2 := zH hc1
 have HO2 := zH (HO1.out.trans ho1)
 have HN2 : Hid (Tri w2 w.heap.size (.slice none 0 0) (.slice none 0 0) (.slice none 0 0) 28) := (ho1.block (by omega) (lt_of_at HN1.out)).trans HN1.out
 have Hadm : Hid ((1 : Int) + ((m : Int) - 1) = m) := by show _ = _; omega
 clear hc1 ho1 hm hx0 hx1 HU1 HO1 HN1
 go_wp2_with fail
 try rw [Hadm.out]
 refine (spec_l1Once B p a len cap 2 (by decide) (by decide) _ hB HU2.out (Hc.out.below (HO2.out.low.mono hB))).mono ?_
 rintro e w3 ⟨sl, rfl, hc1, ho1⟩
 have hN3 : Tri w3 w.heap.size (.slice none 0 0) (.slice none 0 0) (.slice none 0 0) 28 := (ho1.block (by omega) (lt_of_at HN2.out)).trans HN2.out
 have hO3 := HO2.out.trans ho1
 have hlt3 := lt_of_at hN3
 have HS0 : Hid (LpSt p w3.heap.size a len cap w (w3.alloc (.cells #[.slice none 0 0, .slice none 0 0, .slice none 0 0] 28)) (.slice none 0 0) (.slice none 0 0) (.slice none 0 0) [] [] []) :=
  ⟨hp, hlt3, Tri.new w3 _ _ _ _, hN3.more _, OwnAB.nil _ _, World.ownsRow_nil _ _ _ _, hc1.alloc _, hO3.alloc (by omega) _⟩
 clear hc1 ho1 hN3 hO3 hlt3 HU2 HO2 HN2 Hadd Hadm
 go_wp2_with fail
 generalize w3.heap.size = q at *
 go_loopw [7] (fun i wr => ∃ (j : Nat) (vC : Value) (C : List R), j ≤ n ∧ i = .int .i64 j ∧ Hid (C.length = j ∧ Ve.good C = true) ∧ Hid (LpSt p q a len cap w wr (.slice none 0 0) (.slice none 0 0) vC [] [] C)) (fun i _ => n - (intOf i).toNat)
 case atStart => exact ⟨0, _, _, Nat.zero_le _, rfl, zH ⟨rfl, rfl⟩, HS0⟩
 case round =>
  obtain ⟨j, vC, C, hj, rfl, hC, hS⟩ := hrel
  clear HS0
  by_cases hlt : j < n
  ·
   have n1 : (j : Int) < (n : Int) := by omega
   go_wp2_with fail
   refine (spec_l5Number B p a len cap _ hB hS.out.cur (Hc.out.below (hS.out.only.low.mono hB))).mono ?_
   rintro e w4 ⟨x, rfl, hx, hc1, ho1⟩
   have HS4 := zH (hS.out.call ho1 hc1)
   have HX := zH hx
   clear hx hc1 ho1
   go_wp2_with fail
   refine (pick_in B p a len cap 4 den5 _ den5_cells 4 rfl (by decide) (by decide) w4 hB HS4.out.cur (Hc.out.below (HS4.out.only.low.mono hB)) _ rfl).mono ?_
   rintro e w5 ⟨d, rfl, hd, hc1, ho1⟩
   have HS5 := zH (HS4.out.call ho1 hc1)
   have HV := zH (vld5 HX.out hd)
   clear hd hc1 ho1
   go_wp2_with fail
   refine (spec_RatOf x d _).mono ?_
   rintro e w6 ⟨rfl, hb6⟩
   have hS6 := HS5.out.below hb6
   generalize Ra.rn x d = y1 at *
   generalize Ra.rd x d = y2 at *
   have HS7 := zH ((hS6.alloc (.cells #[.int .i64 y1, .int .i64 y2] 32)).alloc (.cells #[.int .i64 y1, .int .i64 y2] 32))
   obtain ⟨c0, c1, c2, _⟩ := (hS6.alloc (.cells #[.int .i64 y1, .int .i64 y2] 32)).box.cells
   have k0 := (CellsAt.new w6 #[.int .i64 y1, .int .i64 y2] 32).cell 0
   have k1 := (CellsAt.new w6 #[.int .i64 y1, .int .i64 y2] 32).cell 1
   have hone := one_rat (w6.alloc (.cells #[.int .i64 y1, .int .i64 y2] 32)) (y1, y2)
   rw [size1] at hone
   have Hone := zH hone
   have hCl : C.length ≤ 3 := by have := hC.out.1; omega
   clear hb6 hS6 HS4 HS5 hS hone
   go_wp2_with (at_builtin; refine wpList_append_rats rfl _ _ rfl w.heap.size _ C rfl HS7.out.c _ [(y1, y2)] 1 1 rfl rfl _ Hone.out (by simp; omega) (by have := HS7.out.lt; omega) ?_)
   intro v' w8 hown hgrow
   have HCn := zH (show (C ++ [(y1, y2)]).length = j + 1 ∧ Ve.good (C ++ [(y1, y2)]) = true from ⟨by rw [List.length_append, hC.out.1]; rfl, good_snoc hC.out.2 HV.out⟩)
   generalize C ++ [(y1, y2)] = C8 at *
   obtain ⟨a8, c8, rfl, _⟩ := own_rats hown
   obtain ⟨e0, e1, e2, f0, f1, f2⟩ := (HS7.out.triC hgrow).cells
   have HS9 := zH (HS7.out.putC hgrow hown)
   clear hown hgrow c0 c1 c2 k0 k1 HS7
   go_wp2_with fail
   go_roundw
   case rel => exact ⟨j + 1, _, _, by omega, by go_num, HCn, HS9⟩
   case measure => simp [intOf]; omega
  ·
   have HC := zH (show C.length = n ∧ Ve.good C = true from ⟨by have := hC.out.1; omega, hC.out.2⟩)
   have HZ0 : Hid (Sized n 0 [] []) := zH ⟨rfl, fun j hj => absurd hj (by omega), rfl, rfl⟩
   clear hC
   go_wp2_with fail
   clear hlt hj
   go_loopw [10] (fun i wr => ∃ (k : Nat) (vA vB : Value) (A : List (List Int)) (Bv : List Int), k ≤ m ∧ i = .int .i64 k ∧ Hid (Sized n k A Bv) ∧ Hid (LpSt p q a len cap w wr vA vB vC A Bv C)) (fun i _ => m - (intOf i).toNat)
   case atStart => exact ⟨0, _, _, _, _, Nat.zero_le _, rfl, HZ0, hS⟩
   case round =>
    clear HZ0 hS
    obtain ⟨k, vA, vB, A, Bv, hk, rfl, hZ, hS⟩ := hrel
    by_cases hlt : k < m
    ·
     obtain ⟨wx, hwx⟩ : ∃ wx : World, wx = wr := ⟨_, rfl⟩
     subst hwx
     have hlx := hS.out.lt
     have n1 : (k : Int) < (m : Int) := by omega
     have HU := zH (own_new_ints wx)
     have HCu := zH (hS.out.cur.alloc (.cells #[] 3))
     have HOn := zH ((Only.refl p wx).alloc (by omega) (.cells #[] 3))
     go_wp2_with fail
     go_loopw [11, 12] (fun v i wr => ∃ (j : Nat) (u : Value) (zs : List Int), u = v ∧ j ≤ n ∧ i = .int .i64 j ∧ Hid (zs.length = j ∧ Lp.small zs = true) ∧ Hid (OwnInts wx.heap.size wr u zs) ∧ Hid (Cur wr p a len cap) ∧ Hid (Only p wx wr)) (fun _ i _ => n - (intOf i).toNat)
     case atStart => exact ⟨0, _, [], rfl, Nat.zero_le _, rfl, zH ⟨rfl, rfl⟩, HU, HCu, HOn⟩
     case round =>
      clear HU HCu HOn
      obtain ⟨j, u, zs, rfl, hj, rfl, hz, hU, hCu, hOn⟩ := hrel
      by_cases hjt : j < n
      ·
       have n2 : (j : Int) < (n : Int) := by omega
       go_wp2_with fail
       refine (spec_l5Number B p a len cap _ hB hCu.out (Hc.out.below ((hS.out.only.trans hOn.out).low.mono hB))).mono ?_
       rintro e w4 ⟨x, rfl, hx, hc1, ho1⟩
       have HX := zH (small5 hx)
       have HC4 := zH (hc1.alloc (.cells #[.int .i64 x] 3))
       have HO4 := zH ((hOn.out.trans ho1).alloc (by omega) (.cells #[.int .i64 x] 3))
       have HU4 : Hid (OwnInts wx.heap.size (w4.alloc (.cells #[.int .i64 x] 3)) u zs) := (hU.out.only ho1 (by omega)).below ((Below.refl _ _).alloc (Nat.le_refl _) _)
       have Hone := zH (one_num w4 x)
       have hzl : zs.length ≤ 3 := by have := hz.out.1; omega
       clear hx hc1 ho1 hU hCu hOn
       go_wp2_with (at_builtin; refine wpList_append_ints rfl _ _ rfl wx.heap.size _ zs rfl HU4.out _ [x] 1 1 rfl rfl _ Hone.out (by simp; omega) (by have := HO4.out.low.size; omega) ?_)
       intro v' w8 hown hgrow
       have HZn := zH (show (zs ++ [x]).length = j + 1 ∧ Lp.small (zs ++ [x]) = true from ⟨by rw [List.length_append, hz.out.1]; rfl, small_snoc hz.out.2 HX.out⟩)
       generalize zs ++ [x] = z8 at *
       obtain ⟨a8, c8, rfl⟩ := ints_shape hown
       have HU8 := zH hown
       have HC8 := zH (HC4.out.grown hgrow (fun e => by have := (World.ownsRow.lt HU4.out p e).1; omega))
       have HO8 := zH (HO4.out.grown (by omega) hgrow (fun g hg => (World.ownsRow.lt HU4.out g hg).1))
       clear hown hgrow HU4 HC4 HO4 Hone hzl
       go_wp2_with fail
       go_roundw
       case rel => exact ⟨j + 1, _, _, rfl, by omega, by go_num, HZn, HU8, HC8, HO8⟩
       case measure => simp [intOf]; omega
      ·
       have HZS := zH (show zs.length = n ∧ Lp.small zs = true from ⟨by have := hz.out.1; omega, hz.out.2⟩)
       have hS2 := hS.out.call hOn.out hCu.out
       have HS3 := zH (hS2.alloc (.cells #[u] 25))
       obtain ⟨c0, c1, c2, _⟩ := hS2.box.cells
       obtain ⟨vs, k1, k2, k3⟩ := hS.out.ab.later (hOn.out.alloc (by omega) (.cells #[u] 25)) hp
       have K1 := zH k1
       have K2 := zH k2
       have HUr : Hid (OwnInts w.heap.size (wr.alloc (.cells #[u] 25)) u zs) := (hU.out.below ((Below.refl _ _).alloc (Nat.le_refl _) _)).raise (by omega)
       have Hap : Hid (∀ (j : Nat) (u1 : Value), (vB :: vs)[j]? = some u1 → ∀ b, u1.ownBlock = some b → u.ownBlock ≠ some b) := fun j u1 e b hb hb2 => by
        have := k3 j u1 e b hb
        have := (World.ownsRow.lt hU.out b hb2).1
        omega
       have Hq := zH ((CellsAt.new wr #[u] 25).cell 0)
       have hAl : A.length ≤ 3 := by have := hZ.out.la; omega
       have hlr := HS3.out.lt
       obtain ⟨au, cu, hsh⟩ := ints_shape hU.out
       subst hsh
       clear hS2 k1 k2 k3 hU hCu hOn hS hz
       go_wp2_with (at_builtin; refine wpList_append_rowI rfl _ _ rfl w.heap.size vA vB A Bv vs rfl K1.out K2.out wr.heap.size _ zs rfl Hq.out HUr.out Hap.out (by omega) (by omega) ?_)
       intro v' w8 hab hgrow
       have HA8 : Hid (∀ y : Int, -5000 ≤ y ∧ y ≤ 5000 → Sized n (k + 1) (A ++ [zs]) (Bv ++ [y])) := fun y hy => hZ.out.next HZS.out.1 HZS.out.2 hy
       generalize A ++ [zs] = A8 at *
       obtain ⟨⟨a8, c8, rfl⟩, _⟩ := hab.shape
       obtain ⟨e0, e1, e2, f0, f1, f2⟩ := (HS3.out.triA hgrow).cells
       have hS9 := HS3.out.putA hgrow hab
       have HS9 := zH hS9
       clear hab hgrow c0 c1 c2 K1 K2 HUr Hap Hq HS3 hS9 hlr
       go_upto_region 19 with fail
       clear e0 e1 e2 f0 f1 f2
       generalize w8.setCell ⟨q, 0, none⟩ (.slice a8 A8.length c8) = w9 at *
       obtain ⟨⟨_, _, _⟩, ⟨b9, c9, h9⟩⟩ := HS9.out.ab.shape
       subst h9
       have hst := HS9.out.call (Only.refl p w9).drew HS9.out.cur
       have hBl : Bv.length ≤ 3 := by have := hZ.out.lb; omega
       refine wp_region_T_drew (S := (fun w' => w'.cell? ⟨q, 1, none⟩ = some (.slice b9 Bv.length c9))) 6 (by kernel_rfl) ?_ (fun hHeld => ?_)
       ·
        exact hst.box.cells.2.1
       refine tk2 0 ⟨some 66, .fieldAddr 28 (.tmp 6) 1, 0, "l05_lp.go:144", #[], none⟩ ?_
       refine tk2 1 ⟨some 67, .load 25 (.tmp 66), 25, "l05_lp.go:144", #[⟨0, .data⟩], none⟩ ?_
       refine tk2 2 ⟨some 68, .move (.tmp 0), 61, "l05_lp.go:144", #[], none⟩ ?_
       try simp only [Act.put, zA, zB, zC]
       refine rd2 3 ⟨some 69, .buildSlice 25 7 #[(0, .const (Value.int IntKind.i64 0)), (1, .const (Value.int IntKind.i64 1)), (2, .const (Value.int IntKind.i64 4)), (3, .const (Value.int IntKind.i64 6)), (4, .const (Value.int IntKind.i64 7)), (5, .const (Value.int IntKind.i64 (-2))), (6, .const (Value.int IntKind.i64 10))], 25, "l05_lp.go:144", #[], none⟩ fun K hK => ?_
       go_simp
       refine hK.out _ _ ?_ (fun hHeld => ?_)
       ·
        exact (hst.alloc _).box.cells.2.1
       clear hK K
       try simp only [Act.put, zA, zB, zC]
       refine rd2 4 ⟨some 70, .call { callee := .value (.func 61), args := #[.tmp 68, .tmp 69], argTypes := #[61, 25] }, 3, "l05_lp.go:144", #[⟨2, .data⟩, ⟨3, .data⟩], none⟩ fun K hK => ?_
       go_simp
       (go_at_call 61; refine (pick_in B p a len cap 7 rhs5 _ rhs5_cells 7 rfl (by decide) (by decide) w9.drew hB hst.cur (Hc.out.below (hst.only.low.mono hB)) _ rfl).mono ?_; rintro e w2 ⟨y, rfl, hy, hc2, ho2⟩; have hst2 := hst.call ho2 hc2)
       refine hK.out _ _ ?_ (fun hHeld => ?_)
       ·
        exact hst2.box.cells.2.1
       clear hK K
       try simp only [Act.put, zA, zB, zC]
       have hst3 := hst2.alloc (.cells #[.int .i64 y] 3)
       have hcy := (CellsAt.new w2 #[.int .i64 y] 3).cell 0
       refine rd2 5 ⟨some 71, .buildSlice 25 1 #[(0, .tmp 70)], 25, "l05_lp.go:144", #[⟨4, .data⟩], none⟩ fun K hK => ?_
       go_simp
       refine hK.out _ _ ?_ (fun hHeld => ?_)
       ·
        exact hst3.box.cells.2.1
       clear hK K
       try simp only [Act.put, zA, zB, zC]
       refine rd3 6 ⟨some 72, .call { callee := .builtin Builtin.append, args := #[.tmp 67, .tmp 71], argTypes := #[25, 25] }, 25, "l05_lp.go:144", #[⟨1, .data⟩, ⟨5, .data⟩, ⟨4, .chain⟩], none⟩ fun K hK => ?_
       (refine step_append_int_at rfl _ _ rfl w.heap.size _ Bv rfl hst3.ab.b w2.heap.size y rfl hcy (by omega) (Nat.le_of_lt hst3.lt.2) ?_; intro v6 w6 hown6 hgrow6 hat6)
       refine hK.out _ _ ?_
       clear hK K
       try simp only [Act.put, zA, zB, zC]
       have HZn := zH (HA8.out y (small5r hy))
       generalize Bv ++ [y] = B8 at *
       obtain ⟨a6, c6, rfl⟩ := ints_shape hown6
       obtain ⟨y0, y1, y2, f0, f1, f2⟩ := (hst3.triB hgrow6).cells
       refine rd3 7 ⟨some 73, .fieldAddr 28 (.tmp 6) 1, 0, "l05_lp.go:144", #[⟨0, .phase⟩, ⟨1, .phase⟩, ⟨2, .phase⟩, ⟨3, .phase⟩, ⟨4, .phase⟩, ⟨5, .phase⟩, ⟨6, .phase⟩], none⟩ fun K hK => ?_
       go_simp
       refine hK.out _ _ ?_
       clear hK K
       try simp only [Act.put, zA, zB, zC]
       refine rd3 8 ⟨none, .store 25 (.tmp 73) (.tmp 72), 0, "l05_lp.go:144", #[⟨7, .data⟩, ⟨6, .data⟩, ⟨6, .chain⟩, ⟨0, .phase⟩, ⟨1, .phase⟩, ⟨2, .phase⟩, ⟨3, .phase⟩, ⟨4, .phase⟩, ⟨5, .phase⟩, ⟨6, .phase⟩], none⟩ fun K hK => ?_
       go_simp
       refine hK.out _ _ ?_
       clear hK K
       refine wpAnyT_done (by kernel_rfl) ?_ _
       have HSn := zH (hst3.putB hgrow6 hown6 hat6)
       clear hst3 hst2 hst hcy hown6 hgrow6 hat6 y0 y1 y2 f0 f1 f2 hy hc2 ho2 HS9
       go_wp2_with fail
       go_roundw
       case rel => exact ⟨k + 1, _, _, _, _, by omega, by go_num, HZn, HSn⟩
       case measure => simp [intOf]; omega
    ·
     obtain ⟨⟨ha, cA, hvA⟩, _⟩ := hS.out.ab.shape
     have hZm : Sized n m A Bv := by
      have e : k = m := by omega
      rw [← e]; exact hZ.out
     have hA0 := hZm.la
     rw [hA0] at hvA
     subst hvA
     obtain ⟨g, _, hg, _⟩ := hS.out.ab.spot (j := 0) (by omega)
     subst hg
     have HC0 : Hid (C.length = n + 0 ∧ Ve.good C = true) := HC
     have HZ0 : Hid (Sized (n + 0) m A Bv) := hZm
     clear hZ hZm hA0 HC
     go_wp2_with fail
     clear hlt hk
     go_loopw [13] (fun v wr => ∃ (i : Nat) (A : List (List Int)) (vC : Value) (C : List R), i ≤ m ∧ v = .int .i64 i ∧ Hid (Sized (n + i) m A Bv) ∧ Hid (C.length = n + i ∧ Ve.good C = true) ∧ Hid (LpSt p q a len cap w wr (.slice (some ⟨g, 0, none⟩) m cA) vB vC A Bv C)) (fun v _ => m - (intOf v).toNat)
     case atStart => exact ⟨0, _, _, _, Nat.zero_le _, rfl, HZ0, HC0, hS⟩
     case round =>
      clear HZ0 HC0 hS
      obtain ⟨i, A, vC, C, hi, rfl, hZ, hC, hS⟩ := hrel
      by_cases hlt : i < m
      ·
       cases sl with
       | false =>
        have n1 : (i : Int) < (m : Int) := by omega
        obtain ⟨_, ⟨b9, c9, h9⟩⟩ := hS.out.ab.shape
        obtain ⟨cc9, cC9, h8, _⟩ := own_rats hS.out.c
        subst h9 h8
        have HF := zH hS.out.fin
        obtain ⟨e0, e1, e2, _⟩ := hS.out.box.cells
        obtain ⟨z0, z1, z2, f0, f1, f2⟩ := hS.out.res.cells
        have HVL := zH (hZ.out.vld hm3 (by omega) hC.out.1 hC.out.2)
        have HLA := zH hZ.out.la
        have HLC := zH hC.out.1
        go_wp2_with fail
        refine bodyPost_ret (v := .agg #[.slice (some ⟨g, 0, none⟩) m cA, .slice b9 Bv.length c9, .slice cc9 C.length cC9]) (by
         obtain ⟨z0, z1, z2, _⟩ := HF.out.1.cells
         revert z0 z1 z2
         generalize (World.setCell _ (⟨w.heap.size, 2, none⟩ : Addr) (.slice cc9 C.length cC9)) = W4
         intro z0 z1 z2
         simp [results, Try.results59, go_sem, z0, z1, z2]) rfl ⟨_, _, _, A, Bv, C, rfl, HVL.out, by have := HLA.out; have := HLC.out; omega, HF.out.2.1, HF.out.2.2.1, HF.out.2.2.2.1, HF.out.2.2.2.2⟩
       | true =>
        have hZs := hZ.out.slack
        have HZs := zH hZs
        have n1 : (i : Int) < (m : Int) := by omega
        clear hZs
        go_wp2_with fail
        go_loopw [14] (fun v wr => ∃ (k : Nat) (A : List (List Int)), k ≤ m ∧ v = .int .i64 k ∧ Hid (Slack (n + i) k m A) ∧ Hid (LpSt p q a len cap w wr (.slice (some ⟨g, 0, none⟩) m cA) vB vC A Bv C)) (fun v _ => m - (intOf v).toNat)
        case atStart => exact ⟨0, A, Nat.zero_le _, rfl, HZs, hS⟩
        case round =>
         obtain ⟨A0, hA0⟩ : ∃ A0, A = A0 := ⟨_, rfl⟩
         subst hA0
         have HZ0 := zH hZ.out
         clear HZs hS hZ n1
         obtain ⟨k, A, hk, rfl, hZ, hS⟩ := hrel
         by_cases hlt : k < m
         ·
          have n2 : (k : Int) < (m : Int) := by omega
          have hkA : k < A.length := by rw [hZ.out.la]; exact hlt
          obtain ⟨g', u, eg, _, _, hcu, _, hou, _⟩ := hS.out.ab.spot hkA
          obtain rfl : g = g' := by simpa using eg
          obtain ⟨au, cu, rfl⟩ := ints_shape hou
          have hrl : (rw_ A k).length ≤ 6 := by have := (hZ.out.hi k (Nat.le_refl _) hlt).1; omega
          have Hcu := zH hcu
          have hst := hS.out.call (Only.refl p wr).drew hS.out.cur
          have hlw := hS.out.lt
          clear eg hcu hou
          generalize hrr : rw_ A k = rr5 at *
          go_upto_region 26 with fail
          refine wp_region_T_drew (S := (fun w' => w'.cell? ⟨q, 0, none⟩ = some (.slice (some ⟨g, 0, none⟩) m cA) ∧ w'.cell? ⟨g, k, none⟩ = some (.slice au rr5.length cu))) 15 (by kernel_rfl) ?_ (fun hHeld => ?_)
          ·
           exact ⟨hst.box.cells.1, Hcu.out⟩
          refine tk2 0 ⟨some 87, .fieldAddr 28 (.tmp 6) 0, 0, "l05_lp.go:148", #[], none⟩ ?_
          refine tk2 1 ⟨some 88, .load 24 (.tmp 87), 24, "l05_lp.go:148", #[⟨0, .data⟩], none⟩ ?_
          refine tk2 2 ⟨some 89, .move (.tmp 14), 3, "l05_lp.go:148", #[], none⟩ ?_
          refine tk2 3 ⟨some 90, .fieldAddr 28 (.tmp 6) 0, 0, "l05_lp.go:148", #[], none⟩ ?_
          refine tk2 4 ⟨some 91, .load 24 (.tmp 90), 24, "l05_lp.go:148", #[⟨3, .data⟩], none⟩ ?_
          refine tk2 5 ⟨some 92, .move (.tmp 14), 3, "l05_lp.go:148", #[], none⟩ ?_
          refine tk2 6 ⟨some 93, .indexAddr 24 (.tmp 91) (.tmp 92), 0, "l05_lp.go:148", #[⟨4, .data⟩, ⟨5, .data⟩], none⟩ ?_
          refine tk2 7 ⟨some 94, .load 25 (.tmp 93), 25, "l05_lp.go:148", #[⟨6, .data⟩], none⟩ ?_
          refine tk2 8 ⟨some 95, .move (.tmp 14), 3, "l05_lp.go:148", #[], none⟩ ?_
          refine tk2 9 ⟨some 96, .move (.tmp 13), 3, "l05_lp.go:148", #[], none⟩ ?_
          refine tk2 10 ⟨some 97, .binOp .eql 3 (.tmp 95) (.tmp 96) 3, 4, "l05_lp.go:148", #[⟨8, .data⟩, ⟨9, .data⟩], none⟩ ?_
          try simp only [Act.put, zA, zB, zC]
          refine rd2 11 ⟨some 98, .call { callee := .value (.func 66), args := #[.tmp 97], argTypes := #[4] }, 3, "l05_lp.go:148", #[⟨10, .data⟩], none⟩ fun K hK => ?_
          go_simp
          (go_at_call 66; refine (bit_any _ _).mono ?_; rintro e w9 ⟨⟨y, rfl, hy0, hy1⟩, rfl⟩)
          refine hK.out _ _ ?_ (fun hHeld => ?_)
          ·
           exact ⟨hst.box.cells.1, Hcu.out⟩
          clear hK K
          try simp only [Act.put, zA, zB, zC]
          have hst2 := hst.alloc (.cells #[.int .i64 y] 3)
          obtain ⟨g2, u2, eg2, _, _, hcu2, _, hou2, _⟩ := hst2.ab.spot hkA
          obtain rfl : g = g2 := by simpa using eg2
          have hcu3 : (wr.drew.alloc (.cells #[.int .i64 y] 3)).cell? ⟨g, k, none⟩ = some (.slice au rr5.length cu) := by
           rw [World.cell?_of_block (w := wr.drew) (a := ⟨g, k, none⟩) (((Below.refl wr.drew.heap.size wr.drew).alloc (Nat.le_refl _) _).block g (block_lt_of_cell (a := ⟨g, k, none⟩) Hcu.out))]
           exact Hcu.out
          obtain rfl : .slice au rr5.length cu = u2 := by rw [hcu3] at hcu2; exact Option.some.inj hcu2
          rw [hrr] at hou2
          have hcy := (CellsAt.new wr.drew #[.int .i64 y] 3).cell 0
          refine rd2 12 ⟨some 99, .buildSlice 25 1 #[(0, .tmp 98)], 25, "l05_lp.go:148", #[⟨11, .data⟩], none⟩ fun K hK => ?_
          go_simp
          refine hK.out _ _ ?_ (fun hHeld => ?_)
          ·
           exact ⟨hst2.box.cells.1, hcu3⟩
          clear hK K
          try simp only [Act.put, zA, zB, zC]
          refine rd2 13 ⟨some 100, .call { callee := .builtin Builtin.append, args := #[.tmp 94, .tmp 99], argTypes := #[25, 25] }, 25, "l05_lp.go:148", #[⟨7, .data⟩, ⟨12, .data⟩, ⟨11, .chain⟩], none⟩ fun K hK => ?_
          (refine step_append_int_at rfl _ _ rfl w.heap.size _ rr5 rfl hou2 wr.drew.heap.size y rfl hcy (by omega) (Nat.le_of_lt hst2.lt.2) ?_; intro v6 w6 hown6 hgrow6 hat6; obtain ⟨hst6, ht6, hc6, hf6⟩ := hst2.putRow hkA hcu3 hgrow6 hown6 hat6; have HZn := zH (hZ.out.next hlt (y := y) (by omega)); rw [hrr] at HZn; generalize rr5 ++ [y] = r8 at *; obtain ⟨a6, c6, rfl⟩ := ints_shape hown6)
          refine hK.out _ _ ?_ (fun hHeld => ?_)
          ·
           exact ⟨ht6.cells.1, hc6⟩
          clear hK K
          refine tk2 14 ⟨some 101, .indexAddr 24 (.tmp 88) (.tmp 89), 0, "l05_lp.go:148", #[⟨1, .data⟩, ⟨2, .data⟩, ⟨0, .phase⟩, ⟨1, .phase⟩, ⟨2, .phase⟩, ⟨3, .phase⟩, ⟨4, .phase⟩, ⟨5, .phase⟩, ⟨6, .phase⟩, ⟨7, .phase⟩, ⟨8, .phase⟩, ⟨9, .phase⟩, ⟨10, .phase⟩, ⟨11, .phase⟩, ⟨12, .phase⟩, ⟨13, .phase⟩], none⟩ ?_
          try simp only [Act.put, zA, zB, zC]
          refine rd3 15 ⟨none, .store 25 (.tmp 101) (.tmp 100), 0, "l05_lp.go:148", #[⟨14, .data⟩, ⟨13, .data⟩, ⟨13, .chain⟩, ⟨0, .phase⟩, ⟨1, .phase⟩, ⟨2, .phase⟩, ⟨3, .phase⟩, ⟨4, .phase⟩, ⟨5, .phase⟩, ⟨6, .phase⟩, ⟨7, .phase⟩, ⟨8, .phase⟩, ⟨9, .phase⟩, ⟨10, .phase⟩, ⟨11, .phase⟩, ⟨12, .phase⟩, ⟨13, .phase⟩], none⟩ fun K hK => ?_
          go_simp
          refine hK.out _ _ ?_
          clear hK K
          refine wpAnyT_done (by kernel_rfl) ?_ _
          have HSn := zH hst6
          clear hst6 ht6 hc6 hf6 hown6 hgrow6 hat6 hcy hou2 hcu3 hcu2 eg2 hst2 hst Hcu hrr hrl
          go_wp2_with fail
          go_roundw
          case rel => exact ⟨k + 1, _, by omega, by go_num, HZn, HSn⟩
          case measure => simp [intOf]; omega
         ·
          have HZd := zH (hZ.out.done (by omega) HZ0.out)
          have hst := hS.out.call (Only.refl p wr).drew hS.out.cur
          have hCl : C.length ≤ 6 := by have := hC.out.1; omega
          obtain ⟨cc, cC, hcC, _⟩ := own_rats hS.out.c
          subst hcC
          clear HZ0 hZ
          go_upto_region 27 with fail
          refine wp_region_T_drew (S := (fun w' => w'.cell? ⟨q, 2, none⟩ = some (.slice cc C.length cC))) 4 (by kernel_rfl) ?_ (fun hHeld => ?_)
          ·
           exact hst.box.cells.2.2.1
          refine tk2 0 ⟨some 102, .fieldAddr 28 (.tmp 6) 2, 0, "l05_lp.go:150", #[], none⟩ ?_
          refine tk2 1 ⟨some 103, .load 26 (.tmp 102), 26, "l05_lp.go:150", #[⟨0, .data⟩], none⟩ ?_
          try simp only [Act.put, zA, zB, zC]
          refine rd2 2 ⟨some 104, .call { callee := .value (.func 65), args := #[.const (Value.int IntKind.i64 0)], argTypes := #[3] }, 32, "l05_lp.go:150", #[], none⟩ fun K hK => ?_
          go_simp
          (go_at_call 65; refine (spec_l3Int 0 _).mono ?_; rintro e w9 ⟨rfl, hb9⟩; have hst2 := hst.below hb9)
          refine hK.out _ _ ?_ (fun hHeld => ?_)
          ·
           exact hst2.box.cells.2.2.1
          clear hK K
          try simp only [Act.put, zA, zB, zC]
          have hst3 := hst2.alloc (.cells #[.int .i64 0, .int .i64 1] 32)
          have hone := one_rat w9 (0, 1)
          refine rd2 3 ⟨some 105, .buildSlice 26 1 #[(0, .tmp 104)], 26, "l05_lp.go:150", #[⟨2, .data⟩], none⟩ fun K hK => ?_
          go_simp
          refine hK.out _ _ ?_ (fun hHeld => ?_)
          ·
           exact hst3.box.cells.2.2.1
          clear hK K
          try simp only [Act.put, zA, zB, zC]
          refine rd3 4 ⟨some 106, .call { callee := .builtin Builtin.append, args := #[.tmp 103, .tmp 105], argTypes := #[26, 26] }, 26, "l05_lp.go:150", #[⟨1, .data⟩, ⟨3, .data⟩, ⟨2, .chain⟩], none⟩ fun K hK => ?_
          (refine step_append_ratsD rfl _ _ rfl w.heap.size _ C rfl hst3.c w9.heap.size 0 [(0, 1)] 1 1 rfl rfl _ hone (by simp; omega) (Nat.le_of_lt hst3.lt.2) ?_; intro v6 w6 hown6 hgrow6)
          refine hK.out _ _ ?_
          clear hK K
          try simp only [Act.put, zA, zB, zC]
          have HCn := zH (show (C ++ [((0 : Int), (1 : Int))]).length = n + (i + 1) ∧ Ve.good (C ++ [((0 : Int), (1 : Int))]) = true from ⟨by rw [List.length_append, hC.out.1]; simp; omega, good_snoc hC.out.2 (by decide)⟩)
          generalize C ++ [((0 : Int), (1 : Int))] = C8 at *
          obtain ⟨a6, c6, rfl, _⟩ := own_rats hown6
          obtain ⟨y0, y1, y2, f0, f1, f2⟩ := (hst3.triC hgrow6).cells
          refine rd3 5 ⟨some 107, .fieldAddr 28 (.tmp 6) 2, 0, "l05_lp.go:150", #[⟨0, .phase⟩, ⟨1, .phase⟩, ⟨2, .phase⟩, ⟨3, .phase⟩, ⟨4, .phase⟩], none⟩ fun K hK => ?_
          go_simp
          refine hK.out _ _ ?_
          clear hK K
          try simp only [Act.put, zA, zB, zC]
          refine rd3 6 ⟨none, .store 26 (.tmp 107) (.tmp 106), 0, "l05_lp.go:150", #[⟨5, .data⟩, ⟨4, .data⟩, ⟨4, .chain⟩, ⟨0, .phase⟩, ⟨1, .phase⟩, ⟨2, .phase⟩, ⟨3, .phase⟩, ⟨4, .phase⟩], none⟩ fun K hK => ?_
          go_simp
          refine hK.out _ _ ?_
          clear hK K
          refine wpAnyT_done (by kernel_rfl) ?_ _
          have HSn := zH (hst3.putC hgrow6 hown6)
          clear hst3 hst2 hst hone hown6 hgrow6 y0 y1 y2 f0 f1 f2 hb9
          go_wp2_with fail
          go_roundw
          case rel => exact ⟨i + 1, A, _, _, by omega, by go_num, HZd, HCn, HSn⟩
          case measure => simp [intOf]; omega
      ·
       cases sl with
       | false =>
        obtain ⟨_, ⟨b9, c9, h9⟩⟩ := hS.out.ab.shape
        obtain ⟨cc9, cC9, h8, _⟩ := own_rats hS.out.c
        subst h9 h8
        have HF := zH hS.out.fin
        obtain ⟨e0, e1, e2, _⟩ := hS.out.box.cells
        obtain ⟨z0, z1, z2, f0, f1, f2⟩ := hS.out.res.cells
        have HVL := zH (hZ.out.vld hm3 (by omega) hC.out.1 hC.out.2)
        have HLA := zH hZ.out.la
        have HLC := zH hC.out.1
        go_wp2_with fail
        refine bodyPost_ret (v := .agg #[.slice (some ⟨g, 0, none⟩) m cA, .slice b9 Bv.length c9, .slice cc9 C.length cC9]) (by
         obtain ⟨z0, z1, z2, _⟩ := HF.out.1.cells
         revert z0 z1 z2
         generalize (World.setCell _ (⟨w.heap.size, 2, none⟩ : Addr) (.slice cc9 C.length cC9)) = W4
         intro z0 z1 z2
         simp [results, Try.results59, go_sem, z0, z1, z2]) rfl ⟨_, _, _, A, Bv, C, rfl, HVL.out, by have := HLA.out; have := HLC.out; omega, HF.out.2.1, HF.out.2.2.1, HF.out.2.2.2.1, HF.out.2.2.2.2⟩
       | true =>
        obtain ⟨_, ⟨b9, c9, h9⟩⟩ := hS.out.ab.shape
        obtain ⟨cc9, cC9, h8, _⟩ := own_rats hS.out.c
        subst h9 h8
        have HF := zH hS.out.fin
        obtain ⟨e0, e1, e2, _⟩ := hS.out.box.cells
        obtain ⟨z0, z1, z2, f0, f1, f2⟩ := hS.out.res.cells
        have HVL := zH (hZ.out.vld hm3 (by omega) hC.out.1 hC.out.2)
        have HLA := zH hZ.out.la
        have HLC := zH hC.out.1
        go_wp2_with fail
        refine bodyPost_ret (v := .agg #[.slice (some ⟨g, 0, none⟩) m cA, .slice b9 Bv.length c9, .slice cc9 C.length cC9]) (by
         obtain ⟨z0, z1, z2, _⟩ := HF.out.1.cells
         revert z0 z1 z2
         generalize (World.setCell _ (⟨w.heap.size, 2, none⟩ : Addr) (.slice cc9 C.length cC9)) = W4
         intro z0 z1 z2
         simp [results, Try.results59, go_sem, z0, z1, z2]) rfl ⟨_, _, _, A, Bv, C, rfl, HVL.out, by have := HLA.out; have := HLC.out; omega, HF.out.2.1, HF.out.2.2.1, HF.out.2.2.2.1, HF.out.2.2.2.2⟩
end Go.Proofs.Ytmjmjilpcekngaa

namespace Go.Proofs.Ytmjmjilpcekngaa
open Go.RowKit
open Ve (R)
structure LpMid (A : List (List Int)) (B : List Int) (C : List R) : Prop where
 a1 : 1 ≤ A.length
 a3 : A.length ≤ 3
 row : ∀ j, j < A.length → 1 ≤ (rw_ A j).length ∧ (rw_ A j).length ≤ 7
 b4 : B.length ≤ 4
 c1 : 1 ≤ C.length
 c6 : C.length ≤ 6
def DrewBentLP (p : Nat) (a : Option Addr) (len cap : Nat) (w : World) (e : Ending) (w' : World) : Prop :=
 ∃ (vA vB vC : Value) (A : List (List Int)) (B : List Int) (C : List R), e = .returned (.agg #[vA, vB, vC]) ∧ LpMid A B C ∧ OwnAB w.heap.size w' vA vB A B ∧ OwnRats w.heap.size w' vC C ∧ Cur w' p a len cap ∧ Only p w w'
theorem mid_of {A : List (List Int)} {B : List Int} {C : List R} (hv : Lp.vldP ⟨A, B, C⟩ = true) (h : 1 ≤ A.length ∧ A.length ≤ 3 ∧ 1 ≤ C.length ∧ C.length ≤ 6) : LpMid A B C ∧ B.length ≤ 3 ∧ ∀ j, j < A.length → (rw_ A j).length ≤ 6 := by
 obtain ⟨v1, _, _, v4, _, _⟩ := Lp.vld_parts hv
 have hr : ∀ j, j < A.length → (rw_ A j).length = C.length := fun j hj => (Lp.rows_at v1 hj).1
 simp only at v4
 exact ⟨⟨h.1, h.2.1, fun j hj => by rw [hr j hj]; omega, by omega, h.2.2.1, h.2.2.2⟩, by omega, fun j hj => by rw [hr j hj]; omega⟩
theorem LpMid.set {A : List (List Int)} {B : List Int} {C : List R} {x : List Int} (h : LpMid A B C) (hx : 1 ≤ x.length ∧ x.length ≤ 7) : LpMid (A.set 0 x) B C := by
 have h1 := h.a1
 refine ⟨by simpa using h.a1, by simpa using h.a3, fun j hj => ?_, h.b4, h.c1, h.c6⟩
 rw [List.length_set] at hj
 by_cases e : j = 0
 ·
  subst e
  rw [rw_set_self (by omega)]
  exact hx
 ·
  rw [rw_set_ne e]
  exact h.row j hj
set_option maxHeartbeats 4000000 in
theorem spec_l5Bent (B p : Nat) (a : Option Addr) (len cap : Nat) (w : World) (hB : B ≤ p) (hcur : Cur w p a len cap) (hcode : CodeAt B w a len) :
  Calls Try.prog 29 #[.pointer (some ⟨p, 0, none⟩)] w (DrewBentLP p a len cap w) := by
 have hp := hcur.lt
 have Hc := zH hcode
 have HU0 := zH (hcur.alloc (.cells #[.slice none 0 0, .slice none 0 0, .slice none 0 0] 28))
 have HN0 := zH (Tri.new w (.slice none 0 0) (.slice none 0 0) (.slice none 0 0) 28)
 have HO0 := zH ((Only.refl p w).alloc (by omega) (.cells #[.slice none 0 0, .slice none 0 0, .slice none 0 0] 28))
 have Hs0 := zH (size1 w (.cells #[.slice none 0 0, .slice none 0 0, .slice none 0 0] 28))
 clear hcur hcode
 go_enter Try.func29, Try.ntmps29
 go_wp2_with fail
 refine (spec_l5Draw B p a len cap _ hB HU0.out (Hc.out.below (HO0.out.low.mono hB))).mono ?_
 rintro e w1 ⟨vA, vB, vC, A, Bv, C, rfl, hv, hsz, hab, hc, hcu, ho⟩
 obtain ⟨hM, hB3, hr6⟩ := mid_of hv hsz
 rw [Hs0.out] at hab hc
 have hab := hab.raise (show w.heap.size ≤ w.heap.size + 1 by omega)
 have hc : OwnRats w.heap.size w1 vC C := hc.raise (by omega)
 obtain ⟨⟨a0, cA, rfl⟩, ⟨b, cB, rfl⟩⟩ := hab.shape
 obtain ⟨cc, cC, rfl, _⟩ := own_rats hc
 obtain ⟨g, _, hg, _⟩ := hab.spot (j := 0) (by omega)
 subst hg
 have hN1 : Tri w1 w.heap.size (.slice none 0 0) (.slice none 0 0) (.slice none 0 0) 28 := (ho.block (by omega) (lt_of_at HN0.out)).trans HN0.out
 have HS0 : Hid (LpSt p w1.heap.size a len cap w (w1.alloc (.cells #[.slice (some ⟨g, 0, none⟩) A.length cA, .slice b Bv.length cB, .slice cc C.length cC] 28)) (.slice (some ⟨g, 0, none⟩) A.length cA) (.slice b Bv.length cB) (.slice cc C.length cC) A Bv C) :=
  ⟨hp, lt_of_at hN1, Tri.new w1 _ _ _ _, hN1.more _, hab.below ((Below.refl _ _).alloc (Nat.le_refl _) _), hc.alloc _, hcu.alloc _, (HO0.out.trans ho).alloc (by omega) _⟩
 have HM0 := zH hM
 have Hr6 := zH hr6
 obtain ⟨m, hm⟩ : ∃ m, A.length = m := ⟨_, rfl⟩
 have Hm := zH hm
 rw [hm] at HS0 ⊢
 have hm1 : 1 ≤ m := by omega
 go_wp2_with fail
 generalize w1.heap.size = q at *
 have HB3 := zH hB3
 clear hab hc hcu ho hN1 hM hr6 hsz hv hm hB3 HU0 HN0 HO0 Hs0
 refine (spec_l1Below B p a len cap 12 (by decide) (by decide) _ hB HS0.out.cur (Hc.out.below (HS0.out.only.low.mono hB))).mono ?_
 rintro e w4 ⟨x, rfl, hx0, hx11, hc1, ho1⟩
 have HS4 := zH (HS0.out.call ho1 hc1)
 clear hc1 ho1 HS0
 by_cases e0 : x = 0
 ·
  have d0 : (x == 0) = true := by rw [e0]; rfl
  have HS5 := zH (HS4.out.alloc (.cells #[.int .i64 1] 3))
  obtain ⟨y0, y1, y2, _⟩ := HS4.out.box.cells
  have Hcy := zH ((CellsAt.new w4 #[.int .i64 1] 3).cell 0)
  have hBl : Bv.length ≤ 3 := HB3.out
  clear e0
  go_wp2_with (at_builtin; refine wpList_append_int_at rfl _ _ rfl w.heap.size _ Bv rfl HS5.out.ab.b w4.heap.size 1 rfl Hcy.out (by omega) (Nat.le_of_lt HS5.out.lt.2) ?_)
  intro v' w8 hown hgrow hat
  have HM : Hid (LpMid A (Bv ++ [1]) C) := zH ⟨HM0.out.a1, HM0.out.a3, HM0.out.row, by rw [List.length_append]; simp; omega, HM0.out.c1, HM0.out.c6⟩
  generalize Bv ++ [1] = B8 at *
  obtain ⟨a8, c8, rfl⟩ := ints_shape hown
  obtain ⟨y0, y1, y2, g0, g1, g2⟩ := (HS5.out.triB hgrow).cells
  rw [← size1 w4 (.cells #[.int .i64 1] 3)] at hat
  have HS := zH (HS5.out.putB hgrow hown hat)
  clear hown hgrow hat HS5 HS4 Hcy HM0
  have HF := zH HS.out.fin
  obtain ⟨e0, e1, e2, _⟩ := HS.out.box.cells
  obtain ⟨z0, z1, z2, f0, f1, f2⟩ := HS.out.res.cells
  go_wp2_with fail
  refine bodyPost_ret (v := .agg #[.slice (some ⟨g, 0, none⟩) m cA, .slice a8 B8.length c8, .slice cc C.length cC]) (by
   obtain ⟨z0, z1, z2, _⟩ := HF.out.1.cells
   revert z0 z1 z2
   generalize (World.setCell _ (⟨w.heap.size, 2, none⟩ : Addr) (.slice cc C.length cC)) = W4
   intro z0 z1 z2
   simp [results, Try.results29, go_sem, z0, z1, z2]) rfl ⟨_, _, _, _, _, _, rfl, HM.out, HF.out.2.1, HF.out.2.2.1, HF.out.2.2.2.1, HF.out.2.2.2.2⟩
 ·
  have d0 : (x == 0) = false := by simpa using e0
  have hA0 : 0 < A.length := by rw [Hm.out]; omega
  obtain ⟨g', u, eg, _, _, hcu, _, hou, _⟩ := HS4.out.ab.spot hA0
  obtain rfl : g = g' := by simpa using eg
  have hr1 := HM0.out.row 0 hA0
  have hr6 := Hr6.out 0 hA0
  obtain ⟨au, cu, hu2, _, _, hne⟩ := own_reads hou
  obtain ⟨b0, hb0⟩ := hne (by intro e; rw [e] at hr1; simp at hr1)
  subst hu2
  subst hb0
  have Hcu := zH hcu
  have HA0 := zH hA0
  clear eg hcu hou hne hA0
  by_cases e1 : x = 1
  ·
   have d1 : (x == 1) = true := by rw [e1]; rfl
   have hst := HS4.out.call (Only.refl p w4).drew HS4.out.cur
   generalize hrr : rw_ A 0 = rr5 at *
   clear e0 e1
   have hm0 : 0 < m := by omega
   go_upto_region 6 with fail
   refine wp_region_T_drew (S := (fun w' => w'.cell? ⟨q, 0, none⟩ = some (.slice (some ⟨g, 0, none⟩) m cA) ∧ w'.cell? ⟨g, 0, none⟩ = some (.slice (some ⟨b0, 0, none⟩) rr5.length cu))) 9 (by kernel_rfl) ?_ (fun hHeld => ?_)
   ·
    exact ⟨hst.box.cells.1, Hcu.out⟩
   refine tk2 0 ⟨some 17, .fieldAddr 28 (.tmp 3) 0, 0, "l05_lp.go:168", #[], none⟩ ?_
   refine tk2 1 ⟨some 18, .load 24 (.tmp 17), 24, "l05_lp.go:168", #[⟨0, .data⟩], none⟩ ?_
   refine tk2 2 ⟨some 19, .fieldAddr 28 (.tmp 3) 0, 0, "l05_lp.go:168", #[], none⟩ ?_
   refine tk2 3 ⟨some 20, .load 24 (.tmp 19), 24, "l05_lp.go:168", #[⟨2, .data⟩], none⟩ ?_
   refine tk2 4 ⟨some 21, .indexAddr 24 (.tmp 20) (.const (Value.int IntKind.i64 0)), 0, "l05_lp.go:168", #[⟨3, .data⟩], none⟩ ?_
   refine tk2 5 ⟨some 22, .load 25 (.tmp 21), 25, "l05_lp.go:168", #[⟨4, .data⟩], none⟩ ?_
   try simp only [Act.put, zA, zB, zC]
   have hst2 := hst.alloc (.cells #[.int .i64 1] 3)
   obtain ⟨g2, u2, eg2, _, _, hcu2, _, hou2, _⟩ := hst2.ab.spot HA0.out
   obtain rfl : g = g2 := by simpa using eg2
   have hcu3 : (w4.drew.alloc (.cells #[.int .i64 1] 3)).cell? ⟨g, 0, none⟩ = some (.slice (some ⟨b0, 0, none⟩) rr5.length cu) := by
    rw [World.cell?_of_block (w := w4.drew) (a := ⟨g, 0, none⟩) (((Below.refl w4.drew.heap.size w4.drew).alloc (Nat.le_refl _) _).block g (block_lt_of_cell (a := ⟨g, 0, none⟩) Hcu.out))]
    exact Hcu.out
   obtain rfl : .slice (some ⟨b0, 0, none⟩) rr5.length cu = u2 := by rw [hcu3] at hcu2; exact Option.some.inj hcu2
   rw [hrr] at hou2
   have hcy := (CellsAt.new w4.drew #[.int .i64 1] 3).cell 0
   refine rd2 6 ⟨some 23, .buildSlice 25 1 #[(0, .const (Value.int IntKind.i64 1))], 25, "l05_lp.go:168", #[], none⟩ fun K hK => ?_
   go_simp
   refine hK.out _ _ ?_ (fun hHeld => ?_)
   ·
    exact ⟨hst2.box.cells.1, hcu3⟩
   clear hK K
   try simp only [Act.put, zA, zB, zC]
   refine rd2 7 ⟨some 24, .call { callee := .builtin Builtin.append, args := #[.tmp 22, .tmp 23], argTypes := #[25, 25] }, 25, "l05_lp.go:168", #[⟨5, .data⟩, ⟨6, .data⟩], none⟩ fun K hK => ?_
   (refine step_append_int_at rfl _ _ rfl w.heap.size _ rr5 rfl hou2 w4.drew.heap.size 1 rfl hcy (by omega) (Nat.le_of_lt hst2.lt.2) ?_; intro v6 w6 hown6 hgrow6 hat6; obtain ⟨hst6, ht6, hc6, hf6⟩ := hst2.putRow HA0.out hcu3 hgrow6 hown6 hat6; have HM := zH (HM0.out.set (x := rr5 ++ [1]) (by rw [List.length_append]; simp; omega)); generalize rr5 ++ [1] = r8 at *; obtain ⟨a6, c6, rfl⟩ := ints_shape hown6)
   refine hK.out _ _ ?_ (fun hHeld => ?_)
   ·
    exact ⟨ht6.cells.1, hc6⟩
   clear hK K
   refine tk2 8 ⟨some 25, .indexAddr 24 (.tmp 18) (.const (Value.int IntKind.i64 0)), 0, "l05_lp.go:168", #[⟨1, .data⟩, ⟨0, .phase⟩, ⟨1, .phase⟩, ⟨2, .phase⟩, ⟨3, .phase⟩, ⟨4, .phase⟩, ⟨5, .phase⟩, ⟨6, .phase⟩, ⟨7, .phase⟩], none⟩ ?_
   try simp only [Act.put, zA, zB, zC]
   refine rd3 9 ⟨none, .store 25 (.tmp 25) (.tmp 24), 0, "l05_lp.go:168", #[⟨8, .data⟩, ⟨7, .data⟩, ⟨7, .chain⟩, ⟨0, .phase⟩, ⟨1, .phase⟩, ⟨2, .phase⟩, ⟨3, .phase⟩, ⟨4, .phase⟩, ⟨5, .phase⟩, ⟨6, .phase⟩, ⟨7, .phase⟩], none⟩ fun K hK => ?_
   go_simp
   refine hK.out _ _ ?_
   clear hK K
   refine wpAnyT_done (by kernel_rfl) ?_ _
   have HS := zH hst6
   clear hst6 ht6 hc6 hf6 hown6 hgrow6 hat6 hcy hou2 hcu3 hcu2 eg2 hst2 hst Hcu hrr HM0 HS4
   have HF := zH HS.out.fin
   obtain ⟨e0, e1, e2, _⟩ := HS.out.box.cells
   obtain ⟨z0, z1, z2, f0, f1, f2⟩ := HS.out.res.cells
   go_wp2_with fail
   refine bodyPost_ret (v := .agg #[.slice (some ⟨g, 0, none⟩) m cA, .slice b Bv.length cB, .slice cc C.length cC]) (by
    obtain ⟨z0, z1, z2, _⟩ := HF.out.1.cells
    revert z0 z1 z2
    generalize (World.setCell _ (⟨w.heap.size, 2, none⟩ : Addr) (.slice cc C.length cC)) = W4
    intro z0 z1 z2
    simp [results, Try.results29, go_sem, z0, z1, z2]) rfl ⟨_, _, _, _, _, _, rfl, HM.out, HF.out.2.1, HF.out.2.2.1, HF.out.2.2.2.1, HF.out.2.2.2.2⟩
  ·
   have d1 : (x == 1) = false := by simpa using e1
   by_cases e2 : x = 2
   ·
    have d2 : (x == 2) = true := by rw [e2]; rfl
    have hst := HS4.out.call (Only.refl p w4).drew HS4.out.cur
    clear e0 e1 e2
    have hm0 : 0 < m := by omega
    have hz0 : 0 < (rw_ A 0).length := by omega
    go_upto_region 8 with fail
    refine wp_region_T_drew (S := (fun w' => w'.cell? ⟨q, 0, none⟩ = some (.slice (some ⟨g, 0, none⟩) m cA) ∧ w'.cell? ⟨g, 0, none⟩ = some (.slice (some ⟨b0, 0, none⟩) (rw_ A 0).length cu))) 8 (by kernel_rfl) ?_ (fun hHeld => ?_)
    ·
     exact ⟨hst.box.cells.1, Hcu.out⟩
    refine tk2 0 ⟨some 28, .fieldAddr 28 (.tmp 3) 0, 0, "l05_lp.go:170", #[], none⟩ ?_
    refine tk2 1 ⟨some 29, .load 24 (.tmp 28), 24, "l05_lp.go:170", #[⟨0, .data⟩], none⟩ ?_
    refine tk2 2 ⟨some 30, .indexAddr 24 (.tmp 29) (.const (Value.int IntKind.i64 0)), 0, "l05_lp.go:170", #[⟨1, .data⟩], none⟩ ?_
    refine tk2 3 ⟨some 31, .load 25 (.tmp 30), 25, "l05_lp.go:170", #[⟨2, .data⟩], none⟩ ?_
    refine tk2 4 ⟨some 32, .move (.tmp 0), 61, "l05_lp.go:170", #[], none⟩ ?_
    try simp only [Act.put, zA, zB, zC]
    refine rd2 5 ⟨some 33, .buildSlice 25 3 #[(0, .const (Value.int IntKind.i64 5000)), (1, .const (Value.int IntKind.i64 5001)), (2, .const (Value.int IntKind.i64 (-5001)))], 25, "l05_lp.go:170", #[], none⟩ fun K hK => ?_
    go_simp
    refine hK.out _ _ ?_ (fun hHeld => ?_)
    ·
     exact ⟨(hst.alloc _).box.cells.1, by show (w4.drew.alloc (.cells #[.int .i64 5000, .int .i64 5001, .int .i64 (-5001)] 3)).cell? ⟨g, 0, none⟩ = _; rw [World.cell?_of_block (w := w4.drew) (a := ⟨g, 0, none⟩) (((Below.refl w4.drew.heap.size w4.drew).alloc (Nat.le_refl _) _).block g (block_lt_of_cell (a := ⟨g, 0, none⟩) Hcu.out))]; exact Hcu.out⟩
    clear hK K
    try simp only [Act.put, zA, zB, zC]
    refine rd2 6 ⟨some 34, .call { callee := .value (.func 61), args := #[.tmp 32, .tmp 33], argTypes := #[61, 25] }, 3, "l05_lp.go:170", #[⟨4, .data⟩, ⟨5, .data⟩], none⟩ fun K hK => ?_
    go_simp
    (go_at_call 61; refine (pick_in B p a len cap 3 [5000, 5001, (-5001)] #[.int .i64 5000, .int .i64 5001, .int .i64 (-5001)] rfl 3 rfl (by decide) (by decide) w4.drew hB hst.cur (Hc.out.below (hst.only.low.mono hB)) _ rfl).mono ?_; rintro e w2 ⟨y, rfl, hy, hc2, ho2⟩; have hst2 := hst.call ho2 hc2; have hcu3 : w2.cell? ⟨g, 0, none⟩ = some (.slice (some ⟨b0, 0, none⟩) (rw_ A 0).length cu) := ho2.cell (a := ⟨g, 0, none⟩) (by have := (HS4.out.ab.apart g rfl).1; simp only; omega) Hcu.out)
    refine hK.out _ _ ?_ (fun hHeld => ?_)
    ·
     exact ⟨hst2.box.cells.1, hcu3⟩
    clear hK K
    refine tk2 7 ⟨some 35, .indexAddr 25 (.tmp 31) (.const (Value.int IntKind.i64 0)), 0, "l05_lp.go:170", #[⟨3, .data⟩, ⟨0, .phase⟩, ⟨1, .phase⟩, ⟨2, .phase⟩, ⟨3, .phase⟩, ⟨4, .phase⟩, ⟨5, .phase⟩, ⟨6, .phase⟩], none⟩ ?_
    try simp only [Act.put, zA, zB, zC]
    obtain ⟨hst6, ⟨y0, k0⟩, f0⟩ := hst2.putElem (k := 0) HA0.out hcu3 (by omega) y
    refine rd3 8 ⟨none, .store 3 (.tmp 35) (.tmp 34), 0, "l05_lp.go:170", #[⟨7, .data⟩, ⟨6, .data⟩, ⟨6, .chain⟩, ⟨0, .phase⟩, ⟨1, .phase⟩, ⟨2, .phase⟩, ⟨3, .phase⟩, ⟨4, .phase⟩, ⟨5, .phase⟩, ⟨6, .phase⟩], none⟩ fun K hK => ?_
    go_simp
    refine hK.out _ _ ?_
    clear hK K
    refine wpAnyT_done (by kernel_rfl) ?_ _
    have HS := zH hst6
    have HM := zH (HM0.out.set (x := (rw_ A 0).set 0 y) (by rw [List.length_set]; exact HM0.out.row 0 HA0.out))
    clear hst6 k0 f0 hst2 hst hcu3 Hcu HM0 HS4 hc2 ho2 hy
    have HF := zH HS.out.fin
    obtain ⟨e0, e1, e2, _⟩ := HS.out.box.cells
    obtain ⟨z0, z1, z2, f0, f1, f2⟩ := HS.out.res.cells
    go_wp2_with fail
    refine bodyPost_ret (v := .agg #[.slice (some ⟨g, 0, none⟩) m cA, .slice b Bv.length cB, .slice cc C.length cC]) (by
     obtain ⟨z0, z1, z2, _⟩ := HF.out.1.cells
     revert z0 z1 z2
     generalize (World.setCell _ (⟨w.heap.size, 2, none⟩ : Addr) (.slice cc C.length cC)) = W4
     intro z0 z1 z2
     simp [results, Try.results29, go_sem, z0, z1, z2]) rfl ⟨_, _, _, _, _, _, rfl, HM.out, HF.out.2.1, HF.out.2.2.1, HF.out.2.2.2.1, HF.out.2.2.2.2⟩
   ·
    have d2 : (x == 2) = false := by simpa using e2
    have HS := HS4
    have HM := HM0
    clear e0 e1 e2 Hcu HM0 HS4
    have HF := zH HS.out.fin
    obtain ⟨e0, e1, e2, _⟩ := HS.out.box.cells
    obtain ⟨z0, z1, z2, f0, f1, f2⟩ := HS.out.res.cells
    go_wp2_with fail
    refine bodyPost_ret (v := .agg #[.slice (some ⟨g, 0, none⟩) m cA, .slice b Bv.length cB, .slice cc C.length cC]) (by
     obtain ⟨z0, z1, z2, _⟩ := HF.out.1.cells
     revert z0 z1 z2
     generalize (World.setCell _ (⟨w.heap.size, 2, none⟩ : Addr) (.slice cc C.length cC)) = W4
     intro z0 z1 z2
     simp [results, Try.results29, go_sem, z0, z1, z2]) rfl ⟨_, _, _, _, _, _, rfl, HM.out, HF.out.2.1, HF.out.2.2.1, HF.out.2.2.2.1, HF.out.2.2.2.2⟩
end Go.Proofs.Ytmjmjilpcekngaa
