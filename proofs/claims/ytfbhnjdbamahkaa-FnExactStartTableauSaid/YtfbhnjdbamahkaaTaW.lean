/- Tableaus in memory: slices of slices of fractions that are read, and those of the call's own. -/
import Derived.Test.YtfbhnjdbamahkaaTaM
import Derived.Test.YtfbhnjdbamahkaaLpD
import Derived.Laws.AppendOwnNone
namespace Go.Proofs.Ytfbhnjdbamahkaa
open Go.RowKit
open Ve (R)
open Ta (T)
def rr (L : List (List R)) (k : Nat) : List R := L.getD k []
theorem rr_get {L : List (List R)} {k : Nat} (h : k < L.length) : L[k]? = some (rr L k) := by
  unfold rr; rw [List.getD_eq_getElem?_getD, List.getElem?_eq_getElem h]; rfl
theorem rr_of {L : List (List R)} {k : Nat} {x : List R} (h : L[k]? = some x) : rr L k = x := by
  unfold rr; rw [List.getD_eq_getElem?_getD, h]; rfl
/-- The slice at a holds slices that read as the rows of L; all lie below B. -/
def RMatIn (B : Nat) (w : World) (a : Option Addr) (L : List (List R)) : Prop :=
  ∀ j, j < L.length → ∃ (b o : Nat) (a' : Option Addr) (c' : Nat), a = some ⟨b, o, none⟩ ∧ b < B ∧ w.cell? ⟨b, o + j, none⟩ = some (.slice a' (rr L j).length c') ∧ RatsIn B w a' (rr L j)
theorem RMatIn.below {B : Nat} {w w' : World} {a : Option Addr} {L : List (List R)} (h : RMatIn B w a L) (hb : Below B w w') : RMatIn B w' a L := fun j hj => by
  obtain ⟨b, o, a', c', h1, h2, h3, h4⟩ := h j hj
  exact ⟨b, o, a', c', h1, h2, by rw [hb.cell (p := ⟨b, o + j, none⟩) h2]; exact h3, h4.below hb⟩
theorem RMatIn.mono {B B' : Nat} {w : World} {a : Option Addr} {L : List (List R)} (h : RMatIn B w a L) (hB : B ≤ B') : RMatIn B' w a L := fun j hj => by
  obtain ⟨b, o, a', c', h1, h2, h3, h4⟩ := h j hj
  exact ⟨b, o, a', c', h1, by omega, h3, h4.mono hB⟩
/-- Two rows of different element types lie in different blocks. -/
theorem own_apart {w : World} {B1 B2 s1 s2 n1 n2 : Nat} {T1 T2 : TypeId} {v1 v2 : Value} {xs1 xs2 : List Value} (h1 : w.ownsRow B1 T1 s1 v1 n1 xs1) (h2 : w.ownsRow B2 T2 s2 v2 n2 xs2) (hT : T1 ≠ T2) : ∀ g, v1.ownBlock = some g → v2.ownBlock ≠ some g := fun g e1 e2 => by
  obtain ⟨_, ⟨rfl, _⟩ | ⟨g1, c1, cur1, rfl, _, hh1, _⟩⟩ := h1
  · cases e1
  · obtain ⟨_, ⟨rfl, _⟩ | ⟨g2, c2, cur2, rfl, _, hh2, _⟩⟩ := h2
    · cases e2
    · obtain rfl : g1 = g := by simpa [Value.ownBlock] using e1
      obtain rfl : g2 = g1 := by simpa [Value.ownBlock] using e2
      rw [hh1] at hh2
      injection hh2 with hh2
      injection hh2 with e3 e4
      exact hT e4
/-- A matrix of the call's own: its rows and what they hold lie from B on. -/
def OwnRM (B : Nat) (w : World) (v : Value) (L : List (List R)) : Prop :=
  ∃ vs : List Value, w.ownsRow B 35 1 v L.length vs ∧ ∀ j, j < L.length → ∃ u, vs[j]? = some u ∧ OwnRats B w u (rr L j)
theorem OwnRM.below {B : Nat} {w w' : World} {v : Value} {L : List (List R)} (h : OwnRM B w v L) (hb : Below w.heap.size w w') : OwnRM B w' v L := by
  obtain ⟨vs, h1, h2⟩ := h
  refine ⟨vs, World.ownsRow.kept h1 (row := none) ⟨hb.os, hb.tape, hb.output, hb.size, fun k hk _ => hb.block k hk⟩ (by cases v.ownBlock <;> simp), fun j hj => ?_⟩
  obtain ⟨u, e, ho⟩ := h2 j hj
  exact ⟨u, e, ho.below hb⟩
theorem OwnRM.raise {B B' : Nat} {w : World} {v : Value} {L : List (List R)} (h : OwnRM B w v L) (hB : B' ≤ B) : OwnRM B' w v L := by
  obtain ⟨vs, ⟨e1, e2⟩, h2⟩ := h
  refine ⟨vs, ⟨e1, ?_⟩, fun j hj => ?_⟩
  · rcases e2 with e2 | ⟨g', cap, cur, e, hg, rest⟩
    · exact .inl e2
    · exact .inr ⟨g', cap, cur, e, by omega, rest⟩
  · obtain ⟨u, e, ho⟩ := h2 j hj
    exact ⟨u, e, ho.raise hB⟩
/-- How it reads. -/
theorem OwnRM.reads {B : Nat} {w : World} {v : Value} {L : List (List R)} (h : OwnRM B w v L) :
    ∃ (a : Option Addr) (cap : Nat), v = .slice a L.length cap ∧ RMatIn w.heap.size w a L ∧ (∀ q, a = some q → B ≤ q.block) := by
  obtain ⟨vs, h1, h2⟩ := h
  have h1' := h1
  obtain ⟨e1, ⟨rfl, hn⟩ | ⟨g, cap, cur, rfl, hg, hh, hr⟩⟩ := h1'
  · have : L = [] := List.eq_nil_of_length_eq_zero hn
    subst this
    exact ⟨none, 0, rfl, fun j hj => absurd hj (by simp), fun q hq => by cases hq⟩
  · refine ⟨some ⟨g, 0, none⟩, cap, rfl, fun j hj => ?_, fun q hq => by obtain rfl := Option.some.inj hq; exact hg⟩
    obtain ⟨u, e, ho⟩ := h2 j hj
    obtain ⟨a, c, rfl, hrd, _, _⟩ := own_rats ho
    refine ⟨g, 0, a, c, rfl, lt_of_at hh, ?_, hrd⟩
    rw [Nat.zero_add, World.ownsRow.cellAt h1 j (by omega)]
    exact e
theorem info_rows : (Try.prog.info? 35).map (fun i => (i.zero, i.size, i.bytes)) = some (some (.slice none 0 0), 1, 24) := by kernel_rfl
theorem rat_ne_row : (34 : TypeId) ≠ 35 := by decide
theorem rat_ne_int : (34 : TypeId) ≠ 3 := by decide
theorem row_ne_int : (35 : TypeId) ≠ 3 := by decide
theorem OwnRM.nil (B : Nat) (w : World) : OwnRM B w (.slice none 0 0) [] := ⟨[], World.ownsRow_nil _ _ _ _, fun j hj => absurd hj (by simp)⟩
/-- One row more, appended: w is the world in which the append runs. -/
theorem OwnRM.snoc {B : Nat} {w w' : World} {v v' u : Value} {vs : List Value} {L : List (List R)} {x : List R} (h1 : w.ownsRow B 35 1 v L.length vs) (h2 : ∀ j, j < L.length → ∃ u, vs[j]? = some u ∧ OwnRats B w u (rr L j)) (hu : OwnRats B w u x)
    (hown : w'.ownsRow B 35 1 v' (L.length + 1) (vs ++ [u])) (hg : w.grownBy w' v.ownBlock) : OwnRM B w' v' (L ++ [x]) := by
  have hl : vs.length = L.length := by have := h1.1; omega
  have keep : ∀ (u' : Value) (xs : List R), OwnRats B w u' xs → OwnRats B w' u' xs := fun u' xs ho =>
    World.ownsRow.kept ho hg (by
      cases hv : u'.ownBlock with
      | none => exact .inl rfl
      | some g => exact .inr fun e => own_apart ho h1 rat_ne_row g hv e.symm)
  refine ⟨vs ++ [u], by rw [List.length_append]; exact hown, fun j hj => ?_⟩
  by_cases e : j < L.length
  · obtain ⟨u', e1, ho⟩ := h2 j e
    refine ⟨u', by rw [List.getElem?_append_left (by omega)]; exact e1, ?_⟩
    have : rr (L ++ [x]) j = rr L j := by
      unfold rr
      rw [List.getD_eq_getElem?_getD, List.getD_eq_getElem?_getD, List.getElem?_append_left e]
    rw [this]
    exact keep u' _ ho
  · have e2 : j = L.length := by rw [List.length_append] at hj; simp at hj; omega
    subst e2
    refine ⟨u, by rw [← hl, List.getElem?_append_right (Nat.le_refl _)]; simp, ?_⟩
    have : rr (L ++ [x]) L.length = x := rr_of (by rw [List.getElem?_append_right (Nat.le_refl _)]; simp)
    rw [this]
    exact keep u _ hu
/-- A tableau that is read. -/
structure TabIn (B : Nat) (w : World) (a b : Option Addr) (t : T) : Prop where
  mR : RMatIn B w a t.rows
  mB : NumsIn B w b t.basis
theorem TabIn.below {B : Nat} {w w' : World} {a b : Option Addr} {t : T} (h : TabIn B w a b t) (hb : Below B w w') : TabIn B w' a b t := ⟨h.mR.below hb, h.mB.below hb⟩
theorem TabIn.mono {B B' : Nat} {w : World} {a b : Option Addr} {t : T} (h : TabIn B w a b t) (hB : B ≤ B') : TabIn B' w a b t := ⟨h.mR.mono hB, h.mB.mono hB⟩
/-- Small enough for all that walks over it. -/
structure TabFits (t : T) : Prop where
  rows : t.rows.length ≤ 1048576
  row : ∀ k, k < t.rows.length → (rr t.rows k).length ≤ 1048576
  basis : t.basis.length ≤ 1048576
  cols : (Lit.int .i64 t.cols).wf = true
/-- The value of a tableau. -/
def tabV (a b : Option Addr) (c1 c2 : Nat) (t : T) : Value := .agg #[.slice a t.rows.length c1, .slice b t.basis.length c2, .int .i64 t.cols]
/-- A tableau of the call's own. -/
structure OwnTab (B : Nat) (w : World) (v : Value) (t : T) : Prop where
  ex : ∃ vR vB : Value, v = .agg #[vR, vB, .int .i64 t.cols] ∧ OwnRM B w vR t.rows ∧ OwnInts B w vB t.basis
theorem OwnTab.below {B : Nat} {w w' : World} {v : Value} {t : T} (h : OwnTab B w v t) (hb : Below w.heap.size w w') : OwnTab B w' v t := by
  obtain ⟨vR, vB, rfl, h1, h2⟩ := h
  exact ⟨vR, vB, rfl, h1.below hb, h2.below hb⟩
theorem OwnTab.raise {B B' : Nat} {w : World} {v : Value} {t : T} (h : OwnTab B w v t) (hB : B' ≤ B) : OwnTab B' w v t := by
  obtain ⟨vR, vB, rfl, h1, h2⟩ := h
  exact ⟨vR, vB, rfl, h1.raise hB, h2.raise hB⟩
theorem OwnTab.reads {B : Nat} {w : World} {v : Value} {t : T} (h : OwnTab B w v t) : ∃ (a b : Option Addr) (c1 c2 : Nat), v = tabV a b c1 c2 t ∧ TabIn w.heap.size w a b t := by
  obtain ⟨vR, vB, rfl, h1, h2⟩ := h
  obtain ⟨a, c1, rfl, r1, _⟩ := h1.reads
  obtain ⟨b, c2, rfl, r2, r3, _⟩ := own_reads h2
  exact ⟨a, b, c1, c2, rfl, r1, NumsIn.of_ints r2 fun q hq => (r3 q hq).2⟩
/-- What a function that makes a tableau returns. -/
def MakesTab (t : T) (w : World) (e : Ending) (w' : World) : Prop := ∃ v, e = .returned v ∧ OwnTab w.heap.size w' v t ∧ Below w.heap.size w w'
def MakesTabK (t : T) (k : Bool) (w : World) (e : Ending) (w' : World) : Prop := ∃ vR vB : Value, e = .returned (.tuple #[.agg #[vR, vB, .int .i64 t.cols], .bool k]) ∧ OwnTab w.heap.size w' (.agg #[vR, vB, .int .i64 t.cols]) t ∧ Below w.heap.size w w'
end Go.Proofs.Ytfbhnjdbamahkaa
