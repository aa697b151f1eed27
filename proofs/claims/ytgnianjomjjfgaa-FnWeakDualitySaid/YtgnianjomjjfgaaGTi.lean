/- The parts TaR, TaS, TaU, TaV, TaX, TaY, TaZ. -/
import Derived.Test.YtgnianjomjjfgaaGTo
import Derived.Test.YtgnianjomjjfgaaGTa
import Derived.Test.YtgnianjomjjfgaaGTd
import Derived.Test.YtgnianjomjjfgaaGSi
import Derived.Test.YtgnianjomjjfgaaHeldT
import Derived.Test.YtgnianjomjjfgaaGVc
/- Rows of the call's own, each in a block of its own: a row entered, an element stored. -/
namespace Go.Proofs.Ytgnianjomjjfgaa
open Go.RowKit
open Ve (R)
open Ta (T)
/-- The rows that the values vs point to. -/
structure RowsX (lo : Nat) (w : World) (vs : List Value) (L : List (List R)) : Prop where
  own : ∀ j, j < L.length → ∃ u, vs[j]? = some u ∧ OwnRats lo w u (rr L j)
  apart : ∀ i j u v, i < L.length → j < L.length → i ≠ j → vs[i]? = some u → vs[j]? = some v → ∀ b, u.ownBlock = some b → v.ownBlock ≠ some b
def OwnRX (lo : Nat) (w : World) (v : Value) (L : List (List R)) : Prop := ∃ vs, w.ownsRow lo 26 1 v L.length vs ∧ RowsX lo w vs L
theorem OwnRX.rm {lo : Nat} {w : World} {v : Value} {L : List (List R)} (h : OwnRX lo w v L) : OwnRM lo w v L := by
  obtain ⟨vs, h1, h2⟩ := h
  exact ⟨vs, h1, h2.own⟩
theorem OwnRX.shape {lo : Nat} {w : World} {v : Value} {L : List (List R)} (h : OwnRX lo w v L) : ∃ (a : Option Addr) (c : Nat), v = .slice a L.length c := rows_shape h.rm
/-- All blocks of fractions and of rows are as they were. -/
theorem OwnRX.kept {lo : Nat} {w w' : World} {v : Value} {L : List (List R)} (h : OwnRX lo w v L) (hk : ∀ b, (TyAt w b 30 ∨ TyAt w b 26) → w'.heap[b]? = w.heap[b]?) : OwnRX lo w' v L := by
  obtain ⟨vs, h1, h2⟩ := h
  refine ⟨vs, owns_same h1 fun g hg => hk g (.inr (owns_ty h1 hg)), fun j hj => ?_, h2.apart⟩
  obtain ⟨u, e, ho⟩ := h2.own j hj
  exact ⟨u, e, owns_same ho fun g hg => hk g (.inl (owns_ty ho hg))⟩
theorem TyAt.lt {w : World} {b : Nat} {t : TypeId} (h : TyAt w b t) : b < w.heap.size := by
  obtain ⟨cs, h⟩ := h
  exact lt_of_at h
theorem OwnRX.below {lo : Nat} {w w' : World} {v : Value} {L : List (List R)} (h : OwnRX lo w v L) (hb : Below w.heap.size w w') : OwnRX lo w' v L :=
  h.kept fun b h1 => hb.block b (by rcases h1 with h1 | h1 <;> exact h1.lt)
/-- A store into a block of another type. -/
theorem OwnRX.set {lo q i : Nat} {w : World} {v u : Value} {t : TypeId} {L : List (List R)} (h : OwnRX lo w v L) (hq : TyAt w q t) (h1 : t ≠ 30) (h2 : t ≠ 26) : OwnRX lo (w.setCell ⟨q, i, none⟩ u) v L :=
  h.kept fun b hb => Below.heap_setCell _ _ _ _ (by
    rcases hb with hb | hb
    · exact fun e => (TyAt.ne hq hb h1) e.symm
    · exact fun e => (TyAt.ne hq hb h2) e.symm)
theorem OwnRX.raise {lo B' : Nat} {w : World} {v : Value} {L : List (List R)} (h : OwnRX lo w v L) (hB : B' ≤ lo) : OwnRX B' w v L := by
  obtain ⟨vs, ⟨e1, e2⟩, h2⟩ := h
  refine ⟨vs, ⟨e1, ?_⟩, fun j hj => ?_, h2.apart⟩
  · rcases e2 with e2 | ⟨g', cap, cur, e, hg, rest⟩
    · exact .inl e2
    · exact .inr ⟨g', cap, cur, e, by omega, rest⟩
  · obtain ⟨u, e, ho⟩ := h2.own j hj
    exact ⟨u, e, ho.raise hB⟩
/-- As a result of the call. -/
theorem OwnRX.res {lo : Nat} {w : World} {v : Value} {L : List (List R)} (h : OwnRX lo w v L) : ResM lo w.heap.size w v L := by
  obtain ⟨vs, h1, h2⟩ := h
  have h1' := h1
  obtain ⟨e1, ⟨rfl, hn⟩ | ⟨g, cap, cur, rfl, hg, hh, hr⟩⟩ := h1'
  · have h0 : L = [] := List.eq_nil_of_length_eq_zero hn
    subst h0
    exact ⟨none, 0, fun _ => .bool false, rfl, Nat.le_refl _, ⟨fun j hj => absurd hj (by simp), fun i j _ hj => absurd hj (by simp)⟩, fun j hj => absurd hj (by simp)⟩
  · have hl : vs.length = L.length := by omega
    have hv : ∀ j, j < L.length → vs[j]? = some (vs.getD j (.bool false)) := fun j hj => by
      rw [List.getD_eq_getElem?_getD, List.getElem?_eq_getElem (by omega)]; rfl
    refine ⟨some ⟨g, 0, none⟩, cap, fun j => vs.getD j (.bool false), rfl, Nat.le_refl _, ⟨fun j hj => ⟨g, 0, rfl, hg, lt_of_at hh, ?_, owns_ty h1 rfl⟩, fun i j hij hj b hb hb2 => ?_⟩, fun j hj => ?_⟩
    · rw [Nat.zero_add, World.ownsRow.cellAt h1 j (by omega)]
      exact hv j hj
    · exact h2.apart i j _ _ (by omega) hj (by omega) (hv i (by omega)) (hv j hj) b hb.2 hb2.2
    · obtain ⟨u, e, ho⟩ := h2.own j hj
      rw [hv j hj] at e
      obtain rfl := Option.some.inj e
      exact RowAt.of_own ho fun g hg => (World.ownsRow.lt ho g hg).2
/-- Where row j lies. -/
theorem OwnRX.spot {lo n c j : Nat} {w : World} {a : Option Addr} {L : List (List R)} (h : OwnRX lo w (.slice a n c) L) (hj : j < L.length) :
    ∃ g u, a = some ⟨g, 0, none⟩ ∧ lo ≤ g ∧ g < w.heap.size ∧ w.cell? ⟨g, j, none⟩ = some u ∧ w.frozen? ⟨g, j, none⟩ = false ∧ OwnRats lo w u (rr L j) ∧ TyAt w g 26 := by
  obtain ⟨vs, h1, h2⟩ := h
  have h1' := h1
  obtain ⟨e1, ⟨e, h0⟩ | ⟨g, cap, cur, e, hg, hh, hr⟩⟩ := h1'
  · omega
  · injection e with e2 e3 e4
    subst e2 e3 e4
    obtain ⟨u, e, ho⟩ := h2.own j hj
    exact ⟨g, u, rfl, hg, lt_of_at hh, by rw [World.ownsRow.cellAt h1 j (by omega)]; exact e, World.ownsRow.frozenAt h1 _, ho, owns_ty h1 rfl⟩
theorem rr_set_self {L : List (List R)} {j : Nat} {x : List R} (h : j < L.length) : rr (L.set j x) j = x := rr_of (by simp [h])
theorem rr_set_ne {L : List (List R)} {i j : Nat} {x : List R} (h : i ≠ j) : rr (L.set j x) i = rr L i := by
  unfold rr
  rw [List.getD_eq_getElem?_getD, List.getD_eq_getElem?_getD, List.getElem?_set_ne (fun e => h e.symm)]
/-- A row made since, entered. -/
theorem OwnRX.put {lo g c n j : Nat} {w0 w : World} {u : Value} {x : List R} {L : List (List R)} (h : OwnRX lo w0 (.slice (some ⟨g, 0, none⟩) n c) L) (hn : n = L.length) (hb : Below w0.heap.size w0 w) (hl : lo ≤ w0.heap.size) (hu : OwnRats w0.heap.size w u x) :
    OwnRX lo (w.setCell ⟨g, j, none⟩ u) (.slice (some ⟨g, 0, none⟩) n c) (L.set j x) := by
  subst hn
  have h0 := h
  obtain ⟨vs, k1, k2⟩ := h0
  have h1 : w.ownsRow lo 26 1 (.slice (some ⟨g, 0, none⟩) L.length c) L.length vs := owns_same k1 fun g hg => hb.block g (World.ownsRow.lt k1 g hg).2
  have keep : ∀ (u' : Value) (B : Nat) (xs : List R), OwnRats B w u' xs → OwnRats B (w.setCell ⟨g, j, none⟩ u) u' xs := fun u' B xs ho =>
    owns_set ho (fun e => own_apart ho h1 rat_ne_row g e rfl)
  have hs := World.ownsRow.stored h1 j u
  have hlv : vs.length = L.length := by have := h1.1; omega
  refine ⟨vs.set j u, by simpa using hs.1, fun i hi => ?_, fun i i' u1 u2 hi1 hi2 hii e1 e2 b hb1 hb2 => ?_⟩
  · rw [List.length_set] at hi
    by_cases e : i = j
    · subst e
      refine ⟨u, by simp [hlv, hi], ?_⟩
      rw [rr_set_self hi]
      exact (keep u _ x hu).raise hl
    · obtain ⟨u', e1, ho⟩ := k2.own i hi
      refine ⟨u', by rw [List.getElem?_set_ne (fun e2 => e e2.symm)]; exact e1, ?_⟩
      rw [rr_set_ne e]
      exact keep u' _ _ (ho.below hb)
  · have old : ∀ (i : Nat) (v : Value), vs[i]? = some v → ∀ b, v.ownBlock = some b → b < w0.heap.size := fun i v e b hb => by
      have hi : i < L.length := by have := (List.getElem?_eq_some_iff.1 e).1; omega
      obtain ⟨u', e1, ho⟩ := k2.own i hi
      rw [e1] at e
      obtain rfl := Option.some.inj e
      exact (World.ownsRow.lt ho b hb).2
    have new : ∀ b, u.ownBlock = some b → w0.heap.size ≤ b := fun b hb => (World.ownsRow.lt hu b hb).1
    by_cases ei : i = j
    · subst ei
      have hi : i < vs.length := by have := (List.getElem?_eq_some_iff.1 e1).1; simpa using this
      rw [List.getElem?_set_self hi] at e1
      rw [List.getElem?_set_ne hii] at e2
      obtain rfl := Option.some.inj e1
      have := old i' u2 e2 b hb2
      have := new b hb1
      omega
    · rw [List.getElem?_set_ne (fun e => ei e.symm)] at e1
      by_cases ej : i' = j
      · subst ej
        have hi : i' < vs.length := by have := (List.getElem?_eq_some_iff.1 e2).1; simpa using this
        rw [List.getElem?_set_self hi] at e2
        obtain rfl := Option.some.inj e2
        have := old i u1 e1 b hb1
        have := new b hb2
        omega
      · rw [List.getElem?_set_ne (fun e => ej e.symm)] at e2
        rw [List.length_set] at hi1 hi2
        exact k2.apart i i' u1 u2 hi1 hi2 hii e1 e2 b hb1 hb2
/-- An element stored in row j. -/
theorem OwnRX.elem {lo g c n j k b m c' : Nat} {w : World} {L : List (List R)} (h : OwnRX lo w (.slice (some ⟨g, 0, none⟩) n c) L) (hn : n = L.length) (hj : j < L.length) (hc : w.cell? ⟨g, j, none⟩ = some (.slice (some ⟨b, 0, none⟩) m c')) (hk : k < (rr L j).length) (x : R) :
    OwnRX lo ((w.setCell ⟨b, k * 2, none⟩ (.int .i64 x.1)).setCell ⟨b, k * 2 + 1, none⟩ (.int .i64 x.2)) (.slice (some ⟨g, 0, none⟩) n c) (L.set j ((rr L j).set k x)) := by
  subst hn
  obtain ⟨vs, h1, h2⟩ := h
  have hlv : vs.length = L.length := by have := h1.1; omega
  rw [World.ownsRow.cellAt h1 j (by omega)] at hc
  obtain ⟨u, e, ho⟩ := h2.own j hj
  have e' := e
  rw [hc] at e'
  obtain rfl := Option.some.inj e'
  obtain ⟨_, _, hm, _⟩ := OwnRats.block ho (by omega)
  subst hm
  have hgb : g ≠ b := fun e3 => own_apart ho h1 rat_ne_row b rfl (by rw [← e3]; rfl)
  refine ⟨vs, ?_, fun i hi => ?_, fun i i' u1 u2 hi1 hi2 => h2.apart i i' u1 u2 (by rwa [List.length_set] at hi1) (by rwa [List.length_set] at hi2)⟩
  · have h3 : ∀ (u1 u2 : Value), World.ownsRow ((w.setCell ⟨b, k * 2, none⟩ u1).setCell ⟨b, k * 2 + 1, none⟩ u2) lo 26 1 (.slice (some ⟨g, 0, none⟩) L.length c) L.length vs := fun u1 u2 =>
      owns_set (owns_set h1 (fun e3 => hgb (by simpa [Value.ownBlock] using e3))) (fun e3 => hgb (by simpa [Value.ownBlock] using e3))
    rw [List.length_set]
    exact h3 _ _
  · rw [List.length_set] at hi
    by_cases e2 : i = j
    · subst e2
      refine ⟨_, e, ?_⟩
      rw [rr_set_self hi]
      have := ho.put k x hk
      exact this
    · obtain ⟨u', e3, ho'⟩ := h2.own i hi
      have hne : u'.ownBlock ≠ some b := h2.apart j i _ u' hj hi (fun e4 => e2 e4.symm) e e3 b rfl
      refine ⟨u', e3, ?_⟩
      rw [rr_set_ne e2]
      exact owns_set (owns_set ho' hne) hne
/-- A copy of which k rows are done; us: the rows' values as they came. -/
def CopyAt (lo : Nat) (w : World) (v : Value) (us : List Value) (L : List (List R)) (k : Nat) : Prop :=
  ∃ vs, w.ownsRow lo 26 1 v L.length vs ∧ (∀ j, k ≤ j → vs[j]? = us[j]?) ∧ RowsX lo w vs (L.take k)
theorem rr_take {L : List (List R)} {j k : Nat} (h : j < k) : rr (L.take k) j = rr L j := by
  unfold rr
  rw [List.getD_eq_getElem?_getD, List.getD_eq_getElem?_getD, List.getElem?_take_of_lt h]
theorem CopyAt.start {lo : Nat} {w : World} {v : Value} {us : List Value} {L : List (List R)} (h : w.ownsRow lo 26 1 v L.length us) : CopyAt lo w v us L 0 :=
  ⟨us, h, fun _ _ => rfl, fun j hj => absurd hj (by simp), fun i j u v hi => absurd hi (by simp)⟩
theorem CopyAt.done {lo : Nat} {w : World} {v : Value} {us : List Value} {L : List (List R)} (h : CopyAt lo w v us L L.length) : OwnRX lo w v L := by
  obtain ⟨vs, h1, _, h2⟩ := h
  rw [List.take_length] at h2
  exact ⟨vs, h1, h2⟩
/-- Where row k is to be entered, and what lies there. -/
theorem CopyAt.spot {lo n c k : Nat} {w : World} {a : Option Addr} {us : List Value} {L : List (List R)} (h : CopyAt lo w (.slice a n c) us L k) (hk : k < L.length) :
    ∃ g, a = some ⟨g, 0, none⟩ ∧ n = L.length ∧ lo ≤ g ∧ g < w.heap.size ∧ w.cell? ⟨g, k, none⟩ = us[k]? ∧ w.frozen? ⟨g, k, none⟩ = false ∧ TyAt w g 26 := by
  obtain ⟨vs, h1, h2, _⟩ := h
  have h1' := h1
  obtain ⟨e1, ⟨e, h0⟩ | ⟨g, cap, cur, e, hg, hh, hr⟩⟩ := h1'
  · omega
  · injection e with e2 e3 e4
    subst e2 e3 e4
    exact ⟨g, rfl, rfl, hg, lt_of_at hh, by rw [World.ownsRow.cellAt h1 k (by omega)]; exact h2 k (Nat.le_refl _), World.ownsRow.frozenAt h1 _, owns_ty h1 rfl⟩
theorem CopyAt.below {lo k : Nat} {w w' : World} {v : Value} {us : List Value} {L : List (List R)} (h : CopyAt lo w v us L k) (hb : Below w.heap.size w w') : CopyAt lo w' v us L k := by
  obtain ⟨vs, h1, h3, h2⟩ := h
  refine ⟨vs, owns_same h1 fun g hg => hb.block g (World.ownsRow.lt h1 g hg).2, h3, fun j hj => ?_, h2.apart⟩
  obtain ⟨u, e, ho⟩ := h2.own j hj
  exact ⟨u, e, ho.below hb⟩
theorem CopyAt.next {lo g c k : Nat} {w0 w : World} {u : Value} {us : List Value} {L : List (List R)} (h : CopyAt lo w0 (.slice (some ⟨g, 0, none⟩) L.length c) us L k) (hk : k < L.length) (hb : Below w0.heap.size w0 w) (hl : lo ≤ w0.heap.size) (hu : OwnRats w0.heap.size w u (rr L k)) :
    CopyAt lo (w.setCell ⟨g, k, none⟩ u) (.slice (some ⟨g, 0, none⟩) L.length c) us L (k + 1) := by
  obtain ⟨vs, k1, k3, k2⟩ := h
  have h1 : w.ownsRow lo 26 1 (.slice (some ⟨g, 0, none⟩) L.length c) L.length vs := owns_same k1 fun g hg => hb.block g (World.ownsRow.lt k1 g hg).2
  have keep : ∀ (u' : Value) (B : Nat) (xs : List R), OwnRats B w u' xs → OwnRats B (w.setCell ⟨g, k, none⟩ u) u' xs := fun u' B xs ho =>
    owns_set ho (fun e => own_apart ho h1 rat_ne_row g e rfl)
  have hs := World.ownsRow.stored h1 k u
  have hlv : vs.length = L.length := by have := h1.1; omega
  have hlt : (L.take k).length = k := by rw [List.length_take]; omega
  have hlt2 : (L.take (k + 1)).length = k + 1 := by rw [List.length_take]; omega
  refine ⟨vs.set k u, by simpa using hs.1, fun j hj => ?_, fun i hi => ?_, fun i i' u1 u2 hi1 hi2 hii e1 e2 b hb1 hb2 => ?_⟩
  · rw [List.getElem?_set_ne (by omega)]; exact k3 j (by omega)
  · rw [hlt2] at hi
    rw [rr_take hi]
    by_cases e : i = k
    · subst e
      exact ⟨u, by simp [hlv, hk], (keep u _ _ hu).raise hl⟩
    · obtain ⟨u', e1, ho⟩ := k2.own i (by omega)
      rw [rr_take (by omega)] at ho
      exact ⟨u', by rw [List.getElem?_set_ne (fun e2 => e e2.symm)]; exact e1, keep u' _ _ (ho.below hb)⟩
  · rw [hlt2] at hi1 hi2
    have old : ∀ (i : Nat) (v : Value), i < k → vs[i]? = some v → ∀ b, v.ownBlock = some b → b < w0.heap.size := fun i v hi e b hb => by
      obtain ⟨u', e1, ho⟩ := k2.own i (by omega)
      rw [e1] at e
      obtain rfl := Option.some.inj e
      exact (World.ownsRow.lt ho b hb).2
    have new : ∀ b, u.ownBlock = some b → w0.heap.size ≤ b := fun b hb => (World.ownsRow.lt hu b hb).1
    by_cases ei : i = k
    · subst ei
      rw [List.getElem?_set_self (by omega)] at e1
      rw [List.getElem?_set_ne hii] at e2
      obtain rfl := Option.some.inj e1
      have := old i' u2 (by omega) e2 b hb2
      have := new b hb1
      omega
    · rw [List.getElem?_set_ne (fun e => ei e.symm)] at e1
      by_cases ej : i' = k
      · subst ej
        rw [List.getElem?_set_self (by omega)] at e2
        obtain rfl := Option.some.inj e2
        have := old i u1 (by omega) e1 b hb1
        have := new b hb2
        omega
      · rw [List.getElem?_set_ne (fun e => ej e.symm)] at e2
        exact k2.apart i i' u1 u2 (by omega) (by omega) hii e1 e2 b hb1 hb2
theorem exists_values {P : Nat → Value → Prop} : ∀ n : Nat, (∀ j, j < n → ∃ u, P j u) → ∃ us : List Value, us.length = n ∧ ∀ j, j < n → ∃ u, us[j]? = some u ∧ P j u
  | 0, _ => ⟨[], rfl, fun j hj => absurd hj (by omega)⟩
  | n + 1, h => by
    obtain ⟨us, h1, h2⟩ := exists_values n fun j hj => h j (by omega)
    obtain ⟨u, hu⟩ := h n (by omega)
    refine ⟨us ++ [u], by simp [h1], fun j hj => ?_⟩
    by_cases e : j = n
    · subst e
      exact ⟨u, by rw [List.getElem?_append_right (by omega), h1]; simp, hu⟩
    · obtain ⟨u', e1, e2⟩ := h2 j (by omega)
      exact ⟨u', by rw [List.getElem?_append_left (by omega)]; exact e1, e2⟩
/-- The rows of a tableau that is read, as values. -/
theorem row_values {B : Nat} {w : World} {a : Option Addr} {L : List (List R)} (h : RMatIn B w a L) : ∃ us : List Value, us.length = L.length ∧ (∀ w', Below B w w' → RowVals w' a us) ∧
    ∀ j, j < L.length → ∃ (a' : Option Addr) (c' : Nat), us[j]? = some (.slice a' (rr L j).length c') ∧ RatsIn B w a' (rr L j) := by
  obtain ⟨us, h1, h2⟩ := exists_values (P := fun j u => ∃ (b o : Nat) (a' : Option Addr) (c' : Nat), u = .slice a' (rr L j).length c' ∧ a = some ⟨b, o, none⟩ ∧ b < B ∧ w.cell? ⟨b, o + j, none⟩ = some u ∧ RatsIn B w a' (rr L j)) L.length (fun j hj => by
    obtain ⟨b, o, a', c', e1, e2, e3, e4⟩ := h j hj
    exact ⟨_, b, o, a', c', rfl, e1, e2, e3, e4⟩)
  refine ⟨us, h1, fun w' hb j u hj => ?_, fun j hj => ?_⟩
  · have hlt : j < L.length := by have := (List.getElem?_eq_some_iff.1 hj).1; omega
    obtain ⟨u', e, b, o, a', c', e1, e2, e3, e4, _⟩ := h2 j hlt
    rw [e] at hj
    obtain rfl := Option.some.inj hj
    exact ⟨b, o, e2, by rw [hb.cell (p := ⟨b, o + j, none⟩) e3]; exact e4, by rw [e1]; rfl⟩
  · obtain ⟨u', e, b, o, a', c', e1, e2, e3, e4, e5⟩ := h2 j hj
    exact ⟨a', c', by rw [e, e1], e5⟩
end Go.Proofs.Ytgnianjomjjfgaa

/- The code's copied and hasRow. -/
namespace Go.Proofs.Ytgnianjomjjfgaa
open Go.RowKit
open Ve (R)
open Ta (T)
theorem row_shape {w : World} {B s n : Nat} {T : TypeId} {v : Value} {vs : List Value} (h : w.ownsRow B T s v n vs) : ∃ (a : Option Addr) (c : Nat), v = .slice a n c := by
  obtain ⟨_, ⟨rfl, rfl⟩ | ⟨g1, c1, cur1, rfl, _⟩⟩ := h
  · exact ⟨none, 0, rfl⟩
  · exact ⟨_, _, rfl⟩
theorem CopyAt.set {lo q i k : Nat} {w : World} {v u : Value} {t : TypeId} {us : List Value} {L : List (List R)} (h : CopyAt lo w v us L k) (hq : TyAt w q t) (h1 : t ≠ 30) (h2 : t ≠ 26) : CopyAt lo (w.setCell ⟨q, i, none⟩ u) v us L k := by
  obtain ⟨vs, k1, k3, k2⟩ := h
  refine ⟨vs, owns_set k1 fun e => (TyAt.ne hq (owns_ty k1 e) h2) rfl, k3, fun j hj => ?_, k2.apart⟩
  obtain ⟨u', e, ho⟩ := k2.own j hj
  exact ⟨u', e, owns_set ho fun e2 => (TyAt.ne hq (owns_ty ho e2) h1) rfl⟩
end Go.Proofs.Ytgnianjomjjfgaa

/- The code's divideRow: a row of the call's own divided in place. -/
namespace Go.Proofs.Ytgnianjomjjfgaa
open Go.RowKit
open Ve (R)
open Ta (T)
/-- A tableau of the call's own behind its box. -/
structure NextAt (lo : Nat) (w : World) (q : Nat) (vR vB : Value) (C : Int) (L : List (List R)) (Bs : List Int) : Prop where
  box : Tri w q vR vB (.int .i64 C) 69
  rows : OwnRX lo w vR L
  bas : OwnInts lo w vB Bs
theorem NextAt.below {lo q : Nat} {w w' : World} {vR vB : Value} {C : Int} {L : List (List R)} {Bs : List Int} (h : NextAt lo w q vR vB C L Bs) (hb : Below w.heap.size w w') : NextAt lo w' q vR vB C L Bs := ⟨h.box.below hb, h.rows.below hb, h.bas.below hb⟩
/-- An element stored in row j. -/
theorem NextAt.elem {lo q g c n j k b m c' : Nat} {w : World} {vB : Value} {C : Int} {L : List (List R)} {Bs : List Int} (h : NextAt lo w q (.slice (some ⟨g, 0, none⟩) n c) vB C L Bs) (hn : n = L.length) (hj : j < L.length) (hc : w.cell? ⟨g, j, none⟩ = some (.slice (some ⟨b, 0, none⟩) m c')) (hk : k < (rr L j).length) (hty : TyAt w b 30) (x : R) :
    NextAt lo ((w.setCell ⟨b, k * 2, none⟩ (.int .i64 x.1)).setCell ⟨b, k * 2 + 1, none⟩ (.int .i64 x.2)) q (.slice (some ⟨g, 0, none⟩) n c) vB C (L.set j ((rr L j).set k x)) Bs := by
  have hbq : b ≠ q := fun e => (TyAt.ne hty (e ▸ tri_ty h.box) (by decide)) rfl
  have hbi : vB.ownBlock ≠ some b := fun e => (TyAt.ne hty (owns_ty h.bas e) rat_ne_int) rfl
  exact ⟨(h.box.other (p := ⟨b, k * 2, none⟩) hbq _).other (p := ⟨b, k * 2 + 1, none⟩) hbq _, h.rows.elem hn hj hc hk x, owns_set (owns_set h.bas hbi) hbi⟩
end Go.Proofs.Ytgnianjomjjfgaa

/- The code's subtractRow. -/
namespace Go.Proofs.Ytgnianjomjjfgaa
open Go.RowKit
open Ve (R)
open Ta (T)
theorem cell_set_ne {w : World} {g i r : Nat} {cs : Array Value} {t : TypeId} (h : CellsAt w g cs t) (hir : i ≠ r) (u : Value) : (w.setCell ⟨g, i, none⟩ u).cell? ⟨g, r, none⟩ = w.cell? ⟨g, r, none⟩ := by
  rw [(h.set i u).cell r, h.cell r, Array.getElem?_setIfInBounds_ne hir]
/-- A row made since, entered. -/
theorem NextAt.put {lo q g c n j : Nat} {w0 w : World} {vB u : Value} {C : Int} {x : List R} {L : List (List R)} {Bs : List Int} (h : NextAt lo w0 q (.slice (some ⟨g, 0, none⟩) n c) vB C L Bs) (hn : n = L.length) (hb : Below w0.heap.size w0 w) (hl : lo ≤ w0.heap.size) (hu : OwnRats w0.heap.size w u x) (hty : TyAt w0 g 26) :
    NextAt lo (w.setCell ⟨g, j, none⟩ u) q (.slice (some ⟨g, 0, none⟩) n c) vB C (L.set j x) Bs := by
  have hgq : g ≠ q := fun e => (TyAt.ne hty (e ▸ tri_ty h.box) (by decide)) rfl
  have hgi : vB.ownBlock ≠ some g := fun e => (TyAt.ne hty (owns_ty h.bas e) row_ne_int) rfl
  exact ⟨(h.box.below hb).other (p := ⟨g, j, none⟩) hgq _, h.rows.put hn hb hl hu, owns_set (h.bas.below hb) hgi⟩
end Go.Proofs.Ytgnianjomjjfgaa

/- The code's pivot. -/
namespace Go.Proofs.Ytgnianjomjjfgaa
open Go.RowKit
open Ve (R)
open Ta (T)
theorem rr_rowsAt {t : T} {r c k j : Nat} (hj : j < t.rows.length) (h1 : j ≠ r) (h2 : k ≤ j) : rr (Ta.rowsAt t r c k) j = Ta.row t j := rr_of (by rw [Ta.rowsAt_get t r c k j hj, if_neg h1, if_neg (by omega)])
theorem rr_rowsAt_main {t : T} {r c k : Nat} (hr : r < t.rows.length) : rr (Ta.rowsAt t r c k) r = Ta.main t r c := rr_of (by rw [Ta.rowsAt_get t r c k r hr, if_pos rfl])
/-- One row more. -/
theorem rowsAt_step {t : T} {r c k : Nat} (hkr : k ≠ r) (st : Bool) (hst : decide (Ve.at_ (Ta.row t k) c = (0, 1)) = st) :
    Ta.rowsAt t r c (k + 1) = (if st then Ta.rowsAt t r c k else (Ta.rowsAt t r c k).set k (Ve.scR (Ta.row t k) (Ta.negR (Ve.at_ (Ta.row t k) c)) (Ta.main t r c))) ∧ Ta.nextK t r c k = (st || Ve.scK (Ta.row t k) (Ta.negR (Ve.at_ (Ta.row t k) c)) (Ta.main t r c)) := by
  have hs : Ta.still t r c k = st := by unfold Ta.still; rw [decide_eq_false hkr, hst]; rfl
  refine ⟨?_, ?_⟩
  · cases st with
    | true => rw [if_pos rfl]; exact Ta.rowsAt_still hs
    | false => rw [if_neg (by decide)]; exact Ta.rowsAt_next hs
  · unfold Ta.nextK; rw [hs]
end Go.Proofs.Ytgnianjomjjfgaa

/- impl.PivotTableau. -/
namespace Go.Proofs.Ytgnianjomjjfgaa
open Go.RowKit
open Ve (R)
open Ta (T)
/-- What the code asks ahead of a pivot comes to the same. -/
theorem Ta.pivK_code (t : T) (r c : Int) : Ta.pivK t r c = (Ta.good t && (decide (0 ≤ r ∧ r ≤ (t.rows.length : Int) - 1) && (decide (0 ≤ c ∧ c ≤ t.cols + t.rows.length - 1) && (Ta.mainK t r.toNat c.toNat && Ta.allNext t r.toNat c.toNat t.rows.length)))) := by
  unfold Ta.pivK Ta.may
  rcases hg : Ta.good t with _ | _
  · rfl
  · rcases hr : decide (0 ≤ r ∧ r ≤ (t.rows.length : Int) - 1) with _ | _
    · rfl
    · rcases hc : decide (0 ≤ c ∧ c ≤ t.cols + t.rows.length - 1) with _ | _
      · rfl
      · by_cases hz : (Ve.at_ (Ta.row t r.toNat) c.toNat).1 = 0
        · have hr' := of_decide_eq_true hr
          obtain ⟨_, _, _, g3⟩ := Ta.good_parts hg
          have h3 := (g3 r.toNat (by omega)).1
          have hm : Ta.mainK t r.toNat c.toNat = false := Ta.dvK_no (k := 0) (by omega) (Ta.divK_zero hz)
          rw [hm]; simp [hz]
        · simp [hz]
theorem NextAt.tab {lo q n1 n2 k1 k2 : Nat} {w : World} {a b : Option Addr} {C : Int} {L : List (List R)} {Bs : List Int} (h : NextAt lo w q (.slice a n1 k1) (.slice b n2 k2) C L Bs) : TabBox w.heap.size w q a b k1 k2 ⟨L, Bs, C⟩ := by
  obtain ⟨a', c', e, hr, _⟩ := h.rows.rm.reads
  injection e with e1 e2 e3
  subst e1 e2 e3
  obtain ⟨b', d', e, hb, pb, _⟩ := own_reads h.bas
  injection e with e1 e2 e3
  subst e1 e2 e3
  exact ⟨h.box, hr, NumsIn.of_ints hb fun p hp => (pb p hp).2⟩
/-- What the code's pivot leaves. -/
def MakesTabX (t : T) (k : Bool) (w : World) (e : Ending) (w' : World) : Prop :=
  (∃ vR vB : Value, e = .returned (.tuple #[.agg #[vR, vB, .int .i64 t.cols], .bool k]) ∧ OwnRX w.heap.size w' vR t.rows ∧ OwnInts w.heap.size w' vB t.basis) ∧ Below w.heap.size w w'
/-- The end: the result's box is set. -/
theorem makes_end {w w2 : World} {vR vB z0 z1 z2 : Value} {t : T} {k : Bool} {cols : Int} {L : List (List R)} {Bs : List Int} (h1 : t.rows = L) (h2 : t.basis = Bs) (h3 : t.cols = cols) (hR : OwnRX w.heap.size w2 vR L) (hI : OwnInts w.heap.size w2 vB Bs) (hB : Below w.heap.size w w2) (hx : Tri w2 (w.heap.size + 1) z0 z1 z2 69) (x y z : Value) :
    MakesTabX t k w (.returned (.tuple #[.agg #[vR, vB, .int .i64 cols], .bool k])) (((w2.setCell ⟨w.heap.size + 1, 0, none⟩ x).setCell ⟨w.heap.size + 1, 1, none⟩ y).setCell ⟨w.heap.size + 1, 2, none⟩ z) := by
  subst h1 h2 h3
  refine ⟨⟨_, _, rfl, ?_, ints_over hI (own_box hI hx (by decide))⟩, low_over hB (Nat.le_succ _) _ _ _⟩
  have k1 := hR.set (q := w.heap.size + 1) (i := 0) (u := x) (tri_ty hx) (by decide) (by decide)
  have k2 := k1.set (q := w.heap.size + 1) (i := 1) (u := y) (tri_ty (hx.set0 _)) (by decide) (by decide)
  exact k2.set (q := w.heap.size + 1) (i := 2) (u := z) (tri_ty ((hx.set0 _).set1 _)) (by decide) (by decide)
end Go.Proofs.Ytgnianjomjjfgaa

/- Tableaus that the specification answers (their rows need not lie apart); the size of a pivot. -/
namespace Go.Proofs.Ytgnianjomjjfgaa
open Go.RowKit
open Ve (R)
open Ta (T)
/-- A tableau made in blocks lo .. hi - 1. -/
def SpTab (lo hi : Nat) (w : World) (v : Value) (t : T) : Prop := hi ≤ w.heap.size ∧ ∃ w0 : World, w0.heap.size = hi ∧ OwnTab lo w0 v t ∧ ∀ k, lo ≤ k → k < hi → w.heap[k]? = w0.heap[k]?
theorem SpTab.rg {lo hi : Nat} {w : World} {v : Value} {t : T} (h : SpTab lo hi w v t) : Rg (fun w' => SpTab lo hi w' v t) lo hi w := by
  obtain ⟨h1, w0, e, ho, hk⟩ := h
  exact ⟨⟨h1, w0, e, ho, hk⟩, h1, fun w' hs hk2 => ⟨Nat.le_trans h1 hs, w0, e, ho, fun k a b => (hk2 k a b).trans (hk k a b)⟩⟩
theorem SpTab.new {lo : Nat} {w : World} {v : Value} {t : T} (h : OwnTab lo w v t) : SpTab lo w.heap.size w v t := ⟨Nat.le_refl _, w, rfl, h, fun _ _ _ => rfl⟩
theorem SpTab.reads_c {lo hi : Nat} {w : World} {x y z : Value} {t : T} (h : SpTab lo hi w (.agg #[x, y, z]) t) : TabC w x y z t := by
  obtain ⟨h1, w0, rfl, ⟨vR, vB, e, hR, hB⟩, hk⟩ := h
  injection e with e
  have e1 : x = vR := by have := congrArg (fun q => q[0]?) e; simpa using this
  have e2 : y = vB := by have := congrArg (fun q => q[1]?) e; simpa using this
  have e3 : z = .int .i64 t.cols := by have := congrArg (fun q => q[2]?) e; simpa using this
  subst e1 e2 e3
  obtain ⟨a, c1, e1, hr, _⟩ := (hR.high hk).reads
  obtain ⟨b, c2, e2, hb, pb, _⟩ := own_reads (hB.high hk)
  exact ⟨a, b, c1, c2, e1, e2, rfl, hr, NumsIn.of_ints hb fun p hp => (pb p hp).2⟩
theorem made_spec {t : T} {k : Bool} {w w' : World} {e : Ending} (h : MakesTabK t k w e w') :
    (∃ x y z : Value, e = .returned (.tuple #[.agg #[x, y, z], .bool k]) ∧ SpTab w.heap.size w'.heap.size w' (.agg #[x, y, z]) t) ∧ Below w.heap.size w w' := by
  obtain ⟨vR, vB, he, ho, hb⟩ := h
  exact ⟨⟨_, _, _, he, SpTab.new ho⟩, hb⟩
theorem made_impl {t : T} {k : Bool} {w w' : World} {e : Ending} (h : MakesTabX t k w e w') :
    (∃ x y z : Value, e = .returned (.tuple #[.agg #[x, y, z], .bool k]) ∧ ResTab w.heap.size w'.heap.size w' (.agg #[x, y, z]) t) ∧ Below w.heap.size w w' := by
  obtain ⟨⟨vR, vB, he, hR, hB⟩, hb⟩ := h
  exact ⟨⟨_, _, _, he, vR, vB, rfl, hR.res, RowAtI.of_own hB fun g hg => (World.ownsRow.lt hB g hg).2⟩, hb⟩
/-- A pivot is as great as the tableau. -/
theorem piv_ok {t : T} {r c : Int} (h : TabOk t) : TabOk (Ta.piv t r c) := by
  rcases hk : Ta.pivK t r c with _ | _
  · rw [Ta.piv_no hk]; exact h
  · have hg : Ta.good t = true := by
      cases hg : Ta.good t with
      | true => rfl
      | false => rw [Ta.pivK_code, hg] at hk; cases hk
    obtain ⟨p1, p2, p3⟩ := Ta.piv_good (r := r) (c := c) hg
    obtain ⟨_, _, g2, g3⟩ := Ta.good_parts hg
    obtain ⟨_, _, q2, q3⟩ := Ta.good_parts p1
    have c1 := cellsM_const t.rows (t.cols + t.rows.length + 1).toNat (fun k hk => by have h4 := (g3 k hk).1; have h5 : Ta.row t k = rr t.rows k := rfl; rw [h5] at h4; omega)
    have c2 := cellsM_const (Ta.piv t r c).rows (t.cols + t.rows.length + 1).toNat (fun k hk => by have h4 := (q3 k hk).1; have h5 : Ta.row (Ta.piv t r c) k = rr (Ta.piv t r c).rows k := rfl; rw [h5, p2, p3] at h4; omega)
    have hN : tabN (Ta.piv t r c) = tabN t := by
      unfold tabN
      rw [c1, c2, p2, q2, p2, g2]
    refine ⟨tabFits (by rw [hN]; exact h.2) (by rw [p3]; exact h.1.cols), by rw [hN]; exact h.2⟩
end Go.Proofs.Ytgnianjomjjfgaa
