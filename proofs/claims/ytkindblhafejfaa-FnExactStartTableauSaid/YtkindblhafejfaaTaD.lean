/- append as one step of a region that draws its order; spec.l6Copy. -/
import Derived.Test.YtkindblhafejfaaTaC
import Derived.Test.YtkindblhafejfaaLpV
import Derived.Deep.RegionHeld3
namespace Go.Proofs.Ytkindblhafejfaa
open Go.RowKit
open Ve (R)
open Ta (T)
theorem numsIn_cells {n : Nat} {w : World} {b o : Nat} {ys : List Int} (h : NumsIn n w (some ⟨b, o, none⟩) ys) : ∀ j u, (ys.map (Value.int .i64))[j]? = some u → w.cell? ((⟨b, o, none⟩ : Addr).add j) = some u := fun j u hu => by
  have hlt : j < ys.length := by have := (List.getElem?_eq_some_iff.1 hu).1; simpa using this
  obtain ⟨b', o', e, _, c0⟩ := h j hlt
  obtain ⟨rfl, rfl⟩ : b = b' ∧ o = o' := by simp only [Option.some.injEq, Addr.mk.injEq] at e; exact ⟨e.1, e.2.1⟩
  rw [Addr.add_lit, c0, ← hu]
  simp [hlt]
/-- 'append(s, x...)' at integers, as a step. -/
theorem step_append_ints {w : World} {ops : Array Oper} {o : Oper} {a : Act} {K : Act → World → Prop} {Q : Exit → Act → World → Prop} {E : Prop} (hgd : o.guard = none) (s x : Operand)
    (hop : o.op = Op.call { callee := Callee.builtin Builtin.append, args := #[s, x], argTypes := #[23, 23] }) (B : Nat) (v : Value) (xs : List Int) (hs : a.eval s = v) (hown : OwnInts B w v xs) (ad : Option Addr) (ys : List Int) (n c : Nat) (hn : n = ys.length) (hx : a.eval x = .slice ad n c)
    (n0 : Nat) (hr : NumsIn n0 w ad ys) (hlen : xs.length + ys.length ≤ 4000000) (hB : B ≤ w.heap.size) (hK : ∀ v' w', OwnInts B w' v' (xs ++ ys) → w.grownBy w' v.ownBlock → K (a.put o.dst v') w') : if Region.wanted o (yielded ops a.tmps) = true then Oper.wp Try.prog o a w K Q else E := by
  have hw : Region.wanted o (yielded ops a.tmps) = true := by simp [Region.wanted, hgd]
  rw [if_pos hw]
  subst hn
  obtain ⟨i0, hi, hz0, hz1, hz2⟩ := info_parts info_int
  cases ad with
  | none =>
    have h0 : ys = [] := by
      cases ys with
      | nil => rfl
      | cons y ys => obtain ⟨b, o, e, _⟩ := hr 0 (by simp); cases e
    subst h0
    have hrun := run_append_none (P := Try.prog) (w := w) B 23 o.type 3 i0 1 Try.underlying23 hi v xs.length _ c hown
    unfold Oper.wp
    simp only [List.length_nil] at hx
    simp [execOp, hop, resolve, invoke, builtin, hs, hx, hrun, Result.andThen]
    exact hK v w (by simpa using hown) (World.grownBy.refl _ _)
  | some q =>
    obtain ⟨b, o1, sp⟩ := q
    refine wp_append_own w s x 23 hop B 3 i0 (.int .i64 0) 1 8 Try.underlying23 hi hz0 hz1 hz2 rfl (by decide) v xs.length (xs.map (Value.int .i64)) hs hown ⟨b, o1, sp⟩ ys.length c (ys.map (Value.int .i64)) hx (by simp) ?_ (fun u hu => ints_oneCell .i64 ys u hu) (by unfold maxLen; omega) (by omega) hB ?_
    · intro j u hj
      have hlt : j < ys.length := by have := (List.getElem?_eq_some_iff.1 hj).1; simpa using this
      obtain ⟨b', o', e, _⟩ := hr j hlt
      have e2 : sp = none := by
        simp only [Option.some.injEq, Addr.mk.injEq] at e
        exact e.2.2
      subst e2
      exact numsIn_cells hr j u hj
    · intro v' w' h1 h2 _
      refine hK v' w' ?_ h2
      unfold OwnInts
      rw [List.length_append, List.map_append]
      exact h1
/-- 'append(rows, row)' at slices of fractions, as a step. -/
theorem step_append_row {w : World} {ops : Array Oper} {o : Oper} {a : Act} {K : Act → World → Prop} {Q : Exit → Act → World → Prop} {E : Prop} (hgd : o.guard = none) (s x : Operand)
    (hop : o.op = Op.call { callee := Callee.builtin Builtin.append, args := #[s, x], argTypes := #[28, 28] }) (B : Nat) (v : Value) (L : List (List R)) (hs : a.eval s = v) (hown : OwnRM B w v L) (q : Nat) (u : Value) (r : List R) (hx : a.eval x = .slice (some ⟨q, 0, none⟩) 1 1)
    (hq : w.cell? ⟨q, 0, none⟩ = some u) (hu : OwnRats B w u r) (hlen : L.length ≤ 4000000) (hB : B ≤ w.heap.size) (hK : ∀ v' w', OwnRM B w' v' (L ++ [r]) → w.grownBy w' v.ownBlock → K (a.put o.dst v') w') : if Region.wanted o (yielded ops a.tmps) = true then Oper.wp Try.prog o a w K Q else E := by
  have hw : Region.wanted o (yielded ops a.tmps) = true := by simp [Region.wanted, hgd]
  rw [if_pos hw]
  obtain ⟨i0, hi, hz0, hz1, hz2⟩ := info_parts info_rows
  obtain ⟨vs, h1, h2⟩ := hown
  refine wp_append_own w s x 28 hop B 32 i0 (.slice none 0 0) 1 24 Try.underlying28 hi hz0 hz1 hz2 rfl (by decide) v L.length vs hs h1 ⟨q, 0, none⟩ 1 1 [u] hx rfl ?_ ?_ (by unfold maxLen; omega) (by omega) hB ?_
  · intro j u' hj
    match j with
    | 0 => simp at hj; subst hj; simpa [Addr.add] using hq
    | j + 1 => simp at hj
  · intro u' hu'
    simp at hu'
    subst hu'
    obtain ⟨a', c', rfl, _⟩ := own_rats hu
    rfl
  · intro v' w' h3 h4 _
    exact hK v' w' (OwnRM.snoc h1 h2 hu h3 h4) h4
theorem own_new_ints (w : World) : OwnInts w.heap.size (w.alloc (.cells #[] 3)) (.slice (some ⟨w.heap.size, 0, none⟩) 0 0) [] := World.ownsRow_made w #[] 0 (Nat.le_refl _) (Nat.zero_le _) rfl
theorem OwnRM.apart {B : Nat} {w : World} {v : Value} {L : List (List R)} (h : OwnRM B w v L) : ∀ g, v.ownBlock = some g → B ≤ g ∧ g < w.heap.size := by
  obtain ⟨vs, h1, _⟩ := h
  exact World.ownsRow.lt h1
end Go.Proofs.Ytkindblhafejfaa
