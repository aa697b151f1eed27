/- Worlds in which at most one block has turned; steps over them. -/
import Derived.Test.YtfbhnjdbamahkaaGrI
import Derived.Test.YtfbhnjdbamahkaaTaL2
namespace Go.Proofs.Ytfbhnjdbamahkaa
open Go.RowKit
open Ve (R)
/-- A call that makes a slice, since a world. -/
theorem calls_since2 {P : Program} {f : FuncId} {args : Array Value} {W wx : World} {xs : List R} (h : Calls P f args wx (MakesRats xs wx)) (hs : Since W wx) :
    Calls P f args wx fun e w' => (∃ v, e = .returned v ∧ OwnRats W.heap.size w' v xs) ∧ Since W w' ∧ Below wx.heap.size wx w' := h.mono fun _ _ ⟨v, he, ho, hb⟩ => ⟨⟨v, he, ho.lower hs.low.size⟩, hs.trans hb, hb⟩
theorem tri_ty {w : World} {q : Nat} {x y z : Value} {t : TypeId} (h : Tri w q x y z t) : TyAt w q t := ⟨_, h⟩
/-- A slice of the call's own lies in another block than a box of another type. -/
theorem own_box {w : World} {B s n q : Nat} {T t : TypeId} {v x y z : Value} {xs : List Value} (h : w.ownsRow B T s v n xs) (hx : Tri w q x y z t) (hT : T ≠ t) : v.ownBlock ≠ some q := fun hq => (TyAt.ne (owns_ty h hq) (tri_ty hx) hT) rfl
theorem rows_box {w : World} {B q : Nat} {t : TypeId} {v x y z : Value} {L : List (List R)} (h : OwnRM B w v L) (hx : Tri w q x y z t) (hT : 35 ≠ t) : v.ownBlock ≠ some q := by
  obtain ⟨vs, h1, _⟩ := h
  exact own_box h1 hx hT
theorem rows_set {w : World} {B q i : Nat} {v u : Value} {L : List (List R)} (h : OwnRM B w v L) (hq : v.ownBlock ≠ some q) (hr : ¬ TyAt w q 34) : OwnRM B (w.setCell ⟨q, i, none⟩ u) v L := by
  obtain ⟨vs, h1, h2⟩ := h
  refine ⟨vs, owns_set h1 hq, fun j hj => ?_⟩
  obtain ⟨u', e, ho⟩ := h2 j hj
  exact ⟨u', e, owns_set ho fun hb => hr (owns_ty ho hb)⟩
/-- The shape alone (the other parts, left in a walk's context, are taken by simp as rules). -/
theorem own_shape {B : Nat} {w : World} {v : Value} {xs : List R} (h : OwnRats B w v xs) : ∃ (a : Option Addr) (c : Nat), v = .slice a xs.length c := by
  obtain ⟨a, c, e, _⟩ := own_rats h
  exact ⟨a, c, e⟩
theorem rows_shape {B : Nat} {w : World} {v : Value} {L : List (List R)} (h : OwnRM B w v L) : ∃ (a : Option Addr) (c : Nat), v = .slice a L.length c := by
  obtain ⟨a, c, e, _⟩ := h.reads
  exact ⟨a, c, e⟩
theorem own_readsR {B : Nat} {w : World} {a : Option Addr} {n c : Nat} {xs : List R} (h : OwnRats B w (.slice a n c) xs) : n = xs.length ∧ RatsIn w.heap.size w a xs := by
  obtain ⟨a', c', he, hr, _, _⟩ := own_rats h
  injection he with h1 h2 h3
  subst h1
  exact ⟨h2, hr⟩
end Go.Proofs.Ytfbhnjdbamahkaa
