/- Worlds in which at most one block has turned; steps over them. -/
import Derived.Test.YtkindblhafejfaaTaL2
namespace Go.Proofs.Ytkindblhafejfaa
open Go.RowKit
open Ve (R)
theorem gr_below {W w w' : World} {row : Option Nat} (h : W.grownBy w row) (hb : Below w.heap.size w w') : W.grownBy w' row :=
  ⟨hb.os.trans h.os, hb.tape.trans h.tape, hb.output.trans h.output, Nat.le_trans h.size hb.size, fun k h1 h2 => (hb.block k (by have := h.size; omega)).trans (h.block k h1 h2)⟩
theorem gr_trans {W w w' : World} {row : Option Nat} (h : W.grownBy w row) (k : w.grownBy w' row) : W.grownBy w' row :=
  ⟨k.os.trans h.os, k.tape.trans h.tape, k.output.trans h.output, Nat.le_trans h.size k.size, fun i h1 h2 => (k.block i (by have := h.size; omega) h2).trans (h.block i h1 h2)⟩
theorem gr_drew {W w : World} {row : Option Nat} (h : W.grownBy w row) : W.grownBy w.drew row := gr_below h (Below.refl _ _).drew
theorem gr_alloc {W w : World} {row : Option Nat} (h : W.grownBy w row) (o : Obj) : W.grownBy (w.alloc o) row := gr_below h ((Below.refl _ _).alloc (Nat.le_refl _) o)
theorem gr_since {W w w' : World} {row : Option Nat} (h : W.grownBy w row) (hs : Since w w') : W.grownBy w' row := gr_below h hs.low
theorem gr_cell {W w : World} {row : Option Nat} (h : W.grownBy w row) {p : Addr} {u : Value} (hp : p.block < W.heap.size) (hr : row ≠ some p.block) (hu : W.cell? p = some u) : w.cell? p = some u := by
  rw [World.cell?_of_block (w := W) (a := p) (h.block _ hp (fun e => hr e.symm))]; exact hu
theorem calls_gr {P : Program} {f : FuncId} {args : Array Value} {W wx : World} {row : Option Nat} {G : Ending → World → Prop} (h : Calls P f args wx fun e w' => G e w' ∧ Below wx.heap.size wx w') (hg : W.grownBy wx row) :
    Calls P f args wx fun e w' => G e w' ∧ Below wx.heap.size wx w' ∧ W.grownBy w' row := h.mono fun _ _ ⟨h1, h2⟩ => ⟨h1, h2, gr_below hg h2⟩
/-- A call that makes a slice, since a world. -/
theorem calls_since2 {P : Program} {f : FuncId} {args : Array Value} {W wx : World} {xs : List R} (h : Calls P f args wx (MakesRats xs wx)) (hs : Since W wx) :
    Calls P f args wx fun e w' => (∃ v, e = .returned v ∧ OwnRats W.heap.size w' v xs) ∧ Since W w' ∧ Below wx.heap.size wx w' := h.mono fun _ _ ⟨v, he, ho, hb⟩ => ⟨⟨v, he, ho.lower hs.low.size⟩, hs.trans hb, hb⟩
theorem tri_ty {w : World} {q : Nat} {x y z : Value} {t : TypeId} (h : Tri w q x y z t) : TyAt w q t := ⟨_, h⟩
/-- A slice of the call's own lies in another block than a box of another type. -/
theorem own_box {w : World} {B s n q : Nat} {T t : TypeId} {v x y z : Value} {xs : List Value} (h : w.ownsRow B T s v n xs) (hx : Tri w q x y z t) (hT : T ≠ t) : v.ownBlock ≠ some q := fun hq => (TyAt.ne (owns_ty h hq) (tri_ty hx) hT) rfl
theorem rows_box {w : World} {B q : Nat} {t : TypeId} {v x y z : Value} {L : List (List R)} (h : OwnRM B w v L) (hx : Tri w q x y z t) (hT : 32 ≠ t) : v.ownBlock ≠ some q := by
  obtain ⟨vs, h1, _⟩ := h
  exact own_box h1 hx hT
theorem below_gr {B : Nat} {a W w : World} {row : Option Nat} (h : Below B a W) (hg : W.grownBy w row) (hB : B ≤ W.heap.size) (hr : ∀ g, row = some g → B ≤ g) : Below B a w := h.grown hg hB hr
/-- A slice of the call's own, over a store into another block. -/
theorem owns_set {w : World} {B s n q i : Nat} {T : TypeId} {v u : Value} {xs : List Value} (h : w.ownsRow B T s v n xs) (hq : v.ownBlock ≠ some q) : (w.setCell ⟨q, i, none⟩ u).ownsRow B T s v n xs :=
  owns_same h fun g hg => Below.heap_setCell _ _ _ _ (fun e => hq (by rw [hg, e]))
theorem rows_set {w : World} {B q i : Nat} {v u : Value} {L : List (List R)} (h : OwnRM B w v L) (hq : v.ownBlock ≠ some q) (hr : ¬ TyAt w q 59) : OwnRM B (w.setCell ⟨q, i, none⟩ u) v L := by
  obtain ⟨vs, h1, h2⟩ := h
  refine ⟨vs, owns_set h1 hq, fun j hj => ?_⟩
  obtain ⟨u', e, ho⟩ := h2 j hj
  exact ⟨u', e, owns_set ho fun hb => hr (owns_ty ho hb)⟩
theorem not_ty {w : World} {q : Nat} {t t' : TypeId} (h : TyAt w q t) (hT : t ≠ t') : ¬ TyAt w q t' := fun h' => TyAt.ne h h' hT rfl
/-- The shape alone (the other parts, left in a walk's context, are taken by simp as rules). -/
theorem own_shape {B : Nat} {w : World} {v : Value} {xs : List R} (h : OwnRats B w v xs) : ∃ (a : Option Addr) (c : Nat), v = .slice a xs.length c := by
  obtain ⟨a, c, e, _⟩ := own_rats h
  exact ⟨a, c, e⟩
theorem ints_shape {B : Nat} {w : World} {v : Value} {xs : List Int} (h : OwnInts B w v xs) : ∃ (a : Option Addr) (c : Nat), v = .slice a xs.length c := by
  obtain ⟨a, c, e, _⟩ := own_reads h
  exact ⟨a, c, e⟩
theorem rows_shape {B : Nat} {w : World} {v : Value} {L : List (List R)} (h : OwnRM B w v L) : ∃ (a : Option Addr) (c : Nat), v = .slice a L.length c := by
  obtain ⟨a, c, e, _⟩ := h.reads
  exact ⟨a, c, e⟩
theorem own_readsR {B : Nat} {w : World} {a : Option Addr} {n c : Nat} {xs : List R} (h : OwnRats B w (.slice a n c) xs) : n = xs.length ∧ RatsIn w.heap.size w a xs := by
  obtain ⟨a', c', he, hr, _, _⟩ := own_rats h
  injection he with h1 h2 h3
  subst h1
  exact ⟨h2, hr⟩
end Go.Proofs.Ytkindblhafejfaa
