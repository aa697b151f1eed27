/- Slices of slices of fractions, as the laws count, copy, compare them. -/
import Derived.Test.YtfbhnjdbamahkaaGLa
import Derived.Test.YtfbhnjdbamahkaaTaW
namespace Go.Proofs.Ytfbhnjdbamahkaa
open Go.RowKit
open Ve (R)
theorem RMatIn.drewN {B : Nat} {w : World} {a : Option Addr} {L : List (List R)} (h : RMatIn B w a L) (d : Nat) : RMatIn B (w.drewN d) a L := h
/-- All the numbers of the rows. -/
def cellsM : List (List R) → Nat
  | [] => 0
  | r :: L => r.length + cellsM L
theorem cellsM_take (L : List (List R)) (k : Nat) (h : k < L.length) : cellsM (L.take (k + 1)) = cellsM (L.take k) + (rr L k).length := by
  induction L generalizing k with
  | nil => simp at h
  | cons r L ih =>
    cases k with
    | zero => simp [cellsM, rr]
    | succ k =>
      have := ih k (by simpa using h)
      simp only [List.take_succ_cons, cellsM]
      have e : rr (r :: L) (k + 1) = rr L k := by simp [rr]
      rw [e]; omega
theorem cellsM_row (L : List (List R)) (k : Nat) (h : k < L.length) : (rr L k).length ≤ cellsM L := by
  induction L generalizing k with
  | nil => simp at h
  | cons r L ih =>
    cases k with
    | zero => simp [cellsM, rr]
    | succ k =>
      have := ih k (by simpa using h)
      have e : rr (r :: L) (k + 1) = rr L k := by simp [rr]
      rw [e]; simp only [cellsM]; omega
theorem cellsM_le (L : List (List R)) (k : Nat) : cellsM (L.take k) ≤ cellsM L := by
  induction L generalizing k with
  | nil => simp
  | cons r L ih =>
    cases k with
    | zero => simp [cellsM]
    | succ k =>
      have := ih k
      simp only [List.take_succ_cons, cellsM]; omega
/-- Go's lengths of the rows. -/
def LensM (L : List (List R)) : Prop := ∀ k, k < L.length → (rr L k).length ≤ 9223372036854775807


/-- The first k of vs are rows of the call's own, each in a block of its own, from lo to hi - 1. -/
def RowsOwnM (lo hi : Nat) (w : World) (vs : List Value) (L : List (List R)) (k : Nat) : Prop :=
  (∀ j, j < k → ∃ v, vs[j]? = some v ∧ OwnRats lo w v (rr L j) ∧ ∀ b, v.ownBlock = some b → b < hi) ∧ ∀ i j v v' b, i < j → j < k → vs[i]? = some v → vs[j]? = some v' → v.ownBlock = some b → v'.ownBlock ≠ some b
/-- A matrix of the call's own, in blocks from lo to hi - 1. -/
def OwnRMat (lo hi : Nat) (w : World) (v : Value) (L : List (List R)) : Prop :=
  ∃ (g n : Nat) (vs : List Value), v = .slice (some ⟨g, 0, none⟩) L.length n ∧ g < hi ∧ w.ownsRow lo 35 1 (.slice (some ⟨g, 0, none⟩) L.length n) L.length vs ∧ RowsOwnM (g + 1) hi w vs L L.length
theorem OwnRMat.same {lo hi : Nat} {w w' : World} {v : Value} {L : List (List R)} (h : OwnRMat lo hi w v L) (hs : ∀ k, lo ≤ k → k < hi → k < w.heap.size → w'.heap[k]? = w.heap[k]?) : OwnRMat lo hi w' v L := by
  obtain ⟨g, n, vs, rfl, hgh, h1, h2, h3⟩ := h
  have hg := World.ownsRow.lt h1 g rfl
  refine ⟨g, n, vs, rfl, hgh, owns_same h1 fun b hb => ?_, fun j hj => ?_, h3⟩
  · obtain rfl : g = b := by simpa [Value.ownBlock] using hb
    exact hs g hg.1 hgh hg.2
  · obtain ⟨v, e, ho, hb⟩ := h2 j hj
    refine ⟨v, e, ho.same fun b hb2 => ?_, hb⟩
    have := World.ownsRow.lt ho b hb2
    exact hs b (by omega) (hb b hb2) this.2
theorem OwnRMat.below {lo hi : Nat} {w w' : World} {v : Value} {L : List (List R)} (h : OwnRMat lo hi w v L) (hb : Below w.heap.size w w') : OwnRMat lo hi w' v L :=
  h.same fun k _ _ hk => hb.block k hk
theorem OwnRMat.turned {lo hi l2 h2 : Nat} {w w' : World} {v : Value} {L : List (List R)} (h : OwnRMat lo hi w v L) (ht : Turned l2 h2 w w') (ha : hi ≤ l2 ∨ h2 ≤ lo) : OwnRMat lo hi w' v L :=
  h.same fun k h1 h2 hk => ht.block k hk (by omega)
theorem OwnRMat.wider {lo hi lo' hi' : Nat} {w : World} {v : Value} {L : List (List R)} (h : OwnRMat lo hi w v L) (h1 : lo' ≤ lo) (h2 : hi ≤ hi') : OwnRMat lo' hi' w v L := by
  obtain ⟨g, n, vs, rfl, hgh, k1, k2, k3⟩ := h
  have hr : w.ownsRow lo' 35 1 (.slice (some ⟨g, 0, none⟩) L.length n) L.length vs := by
    obtain ⟨e1, e2 | ⟨g', cap, cur, e, hg, rest⟩⟩ := k1
    · exact ⟨e1, .inl e2⟩
    · exact ⟨e1, .inr ⟨g', cap, cur, e, by omega, rest⟩⟩
  exact ⟨g, n, vs, rfl, by omega, hr, fun j hj => by
    obtain ⟨v, e, ho, hb⟩ := k2 j hj
    exact ⟨v, e, ho, fun b hb2 => by have := hb b hb2; omega⟩, k3⟩
/-- How it reads. -/
theorem OwnRMat.reads {lo hi : Nat} {w : World} {v : Value} {L : List (List R)} (h : OwnRMat lo hi w v L) :
    ∃ (a : Option Addr) (cap : Nat), v = .slice a L.length cap ∧ RMatIn hi w a L := by
  obtain ⟨g, n, vs, rfl, hgh, h1, h2, h3⟩ := h
  have hg := World.ownsRow.lt h1 g rfl
  refine ⟨_, _, rfl, fun j hj => ?_⟩
  obtain ⟨v, e, ho, hb⟩ := h2 j hj
  obtain ⟨a, cap, rfl, hr, ha, hne⟩ := own_rats ho
  refine ⟨g, 0, a, cap, rfl, hgh, ?_, ?_⟩
  · rw [Nat.zero_add, World.ownsRow.cellAt h1 j (by omega)]
    exact e
  · exact hr.narrow fun p hp => by obtain rfl := hp; exact hb p.block rfl
/-- What a function that makes a matrix returns. -/
def MakesRMat (L : List (List R)) (w : World) (e : Ending) (w' : World) : Prop := ∃ v, e = .returned v ∧ OwnRMat w.heap.size w'.heap.size w' v L ∧ Below w.heap.size w w'
/-- The first k rows are copied. -/
def CopiedRM (B g n k : Nat) (wr : World) (L : List (List R)) : Prop :=
  ∃ vs : List Value, wr.ownsRow B 35 1 (.slice (some ⟨g, 0, none⟩) n n) n vs ∧ RowsOwnM (g + 1) wr.heap.size wr vs L k
theorem CopiedRM.kept {B g n k : Nat} {w w' : World} {L : List (List R)} (h : CopiedRM B g n k w L) (hb : Below w.heap.size w w') : CopiedRM B g n k w' L := by
  obtain ⟨vs, h1, h2, h3⟩ := h
  exact ⟨vs, owns_same h1 fun b hg => hb.block b (World.ownsRow.lt h1 b hg).2, fun j hj => by
    obtain ⟨v, e, ho, hlt⟩ := h2 j hj
    exact ⟨v, e, ho.below hb, fun b h => Nat.lt_of_lt_of_le (hlt b h) hb.size⟩, h3⟩
/-- A row laid behind all that were, and put into its cell. -/
theorem CopiedRM.next {B g n k : Nat} {w w' : World} {L : List (List R)} {u : Value} (h : CopiedRM B g n k w L) (hk : k < n) (hg : g < w.heap.size) (hb : Below w.heap.size w w') (ho : OwnRats w.heap.size w' u (rr L k)) :
    CopiedRM B g n (k + 1) (w'.setCell ⟨g, k, none⟩ u) L := by
  obtain ⟨vs, h1, h2, h3⟩ := h
  have h1' : w'.ownsRow B 35 1 (.slice (some ⟨g, 0, none⟩) n n) n vs := owns_same h1 fun b hg => hb.block b (World.ownsRow.lt h1 b hg).2
  have hl : vs.length = n := by have := h1.1; omega
  have hst := h1'.stored k u
  have old : ∀ j, j < k + 1 → j ≠ k → (vs.set k u)[j]? = vs[j]? := fun j _ e => by rw [List.getElem?_set_ne (fun h => e h.symm)]
  have new : (vs.set k u)[k]? = some u := by rw [List.getElem?_set_self (by omega)]
  refine ⟨vs.set k u, hst.1, fun j hj => ?_, fun i j v v' b hij hj hv hv' hb1 hb2 => ?_⟩
  · by_cases e : j = k
    · subst e
      refine ⟨u, new, (ho.raise (show g + 1 ≤ w.heap.size by omega)).same fun b hb1 => ?_, fun b hb1 => by have := World.ownsRow.lt ho b hb1; simpa [World.setCell] using this.2⟩
      have := World.ownsRow.lt ho b hb1
      rw [Below.heap_setCell _ _ _ _ (show b ≠ g by omega)]
    · obtain ⟨v, e1, e2, e3⟩ := h2 j (by omega)
      refine ⟨v, by rw [old j hj e]; exact e1, (e2.below hb).same fun b hb1 => ?_, fun b hb1 => by have := e3 b hb1; have := hb.size; simp [World.setCell]; omega⟩
      have := World.ownsRow.lt e2 b hb1
      rw [Below.heap_setCell _ _ _ _ (show b ≠ g by omega)]
  · rw [old i (by omega) (by omega)] at hv
    by_cases e : j = k
    · subst e
      rw [new] at hv'
      obtain rfl := Option.some.inj hv'
      have a1 := (World.ownsRow.lt ho b hb2).1
      obtain ⟨v2, e1, e2, _⟩ := h2 i (by omega)
      rw [hv] at e1
      obtain rfl := Option.some.inj e1
      have a2 := (World.ownsRow.lt e2 b hb1).2
      omega
    · rw [old j hj e] at hv'
      exact h3 i j v v' b hij (by omega) hv hv' hb1 hb2
end Go.Proofs.Ytfbhnjdbamahkaa
