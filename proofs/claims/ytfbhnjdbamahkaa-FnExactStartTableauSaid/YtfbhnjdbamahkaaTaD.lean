/- append as one step of a region that draws its order; spec.l6Copy. -/
import Derived.Test.YtfbhnjdbamahkaaGrI
import Derived.Test.YtfbhnjdbamahkaaTaC
import Derived.Test.YtfbhnjdbamahkaaLpV
import Derived.Deep.RegionHeld3
namespace Go.Proofs.Ytfbhnjdbamahkaa
open Go.RowKit
open Ve (R)
open Ta (T)
/-- 'append(rows, row)' at slices of fractions, as a step. -/
theorem step_append_row {w : World} {ops : Array Oper} {o : Oper} {a : Act} {K : Act → World → Prop} {Q : Exit → Act → World → Prop} {E : Prop} (hgd : o.guard = none) (s x : Operand)
    (hop : o.op = Op.call { callee := Callee.builtin Builtin.append, args := #[s, x], argTypes := #[24, 24] }) (B : Nat) (v : Value) (L : List (List R)) (hs : a.eval s = v) (hown : OwnRM B w v L) (q : Nat) (u : Value) (r : List R) (hx : a.eval x = .slice (some ⟨q, 0, none⟩) 1 1)
    (hq : w.cell? ⟨q, 0, none⟩ = some u) (hu : OwnRats B w u r) (hlen : L.length ≤ 4000000) (hB : B ≤ w.heap.size) (hK : ∀ v' w', OwnRM B w' v' (L ++ [r]) → w.grownBy w' v.ownBlock → K (a.put o.dst v') w') : if Region.wanted o (yielded ops a.tmps) = true then Oper.wp Try.prog o a w K Q else E := by
  have hw : Region.wanted o (yielded ops a.tmps) = true := by simp [Region.wanted, hgd]
  rw [if_pos hw]
  obtain ⟨i0, hi, hz0, hz1, hz2⟩ := info_parts info_rows
  obtain ⟨vs, h1, h2⟩ := hown
  refine wp_append_own w s x 24 hop B 35 i0 (.slice none 0 0) 1 24 Try.underlying24 hi hz0 hz1 hz2 rfl (by decide) v L.length vs hs h1 ⟨q, 0, none⟩ 1 1 [u] hx rfl ?_ ?_ (by unfold maxLen; omega) (by omega) hB ?_
  · intro j u' hj
    match j with
    | 0 => simp at hj; subst hj; simpa [Addr.add] using hq
    | j + 1 => simp at hj
  · intro u' hu'
    simp at hu'
    subst hu'
    obtain ⟨a', c', rfl, _⟩ := own_rats hu
    rfl
  · intro v' w' h3 h4 _
    exact hK v' w' (OwnRM.snoc h1 h2 hu h3 h4) h4
theorem OwnRM.apart {B : Nat} {w : World} {v : Value} {L : List (List R)} (h : OwnRM B w v L) : ∀ g, v.ownBlock = some g → B ≤ g ∧ g < w.heap.size := by
  obtain ⟨vs, h1, _⟩ := h
  exact World.ownsRow.lt h1
end Go.Proofs.Ytfbhnjdbamahkaa
