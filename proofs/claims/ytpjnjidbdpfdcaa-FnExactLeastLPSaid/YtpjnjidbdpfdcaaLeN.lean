/- The LP of the least core is small. -/
import Derived.Test.YtpjnjidbdpfdcaaLeM
import Derived.Test.YtpjnjidbdpfdcaaGLa
namespace Go.Proofs.Ytpjnjidbdpfdcaa
open Go.RowKit
open Gm (G)
theorem le_cells (b : Nat) : ∀ (L : List (List Int)), (∀ r ∈ L, r.length ≤ b) → cellsOf L ≤ L.length * b
 | [], _ => by simp [cellsOf]
 | r :: L, h => by
  have h1 := le_cells b L fun x hx => h x (List.mem_cons_of_mem _ hx)
  have h2 := h r (by simp)
  simp only [cellsOf, List.length_cons, Nat.succ_mul]
  omega
theorem least_small (g : G) : lpN (Le.least g) ≤ 1048576 := by
 unfold lpN
 rcases hv : Le.can g with _ | _
 ·
  rw [Le.least_no hv]
  simp [Cr.lp0, cellsOf]
 ·
  rw [Le.least_yes hv]
  have hn := Gm.vld_n (Le.can_vld hv).1
  have hl := Gm.vld_len (Le.can_vld hv).1
  have e1 : (Le.lp g).A.length = g.n.toNat + 1 := by
   show (Le.rowsN _ _ ++ [_]).length = _
   rw [List.length_append, Le.rowsN_len]; rfl
  have e2 : (Le.lp g).B.length = g.n.toNat + 1 := by
   show (Le.zerosTo _ ++ [_]).length = _
   rw [List.length_append, Le.zerosTo_len]; rfl
  have e3 : (Le.lp g).C.length = g.v.length - 2 + 1 := by
   show (Cr.cost _ _ ++ [_]).length = _
   rw [List.length_append, Cr.cost_len]; rfl
  have e4 := le_cells 31 (Le.lp g).A fun r hr => by
   have hr' : r ∈ Le.rowsN (g.v.length - 2) g.n.toNat ++ [Cr.onesTo (g.v.length - 2) ++ [0]] := hr
   rcases List.mem_append.1 hr' with h1 | h1
   ·
    unfold Le.rowsN at h1
    obtain ⟨j, _, rfl⟩ := List.mem_map.1 h1
    rw [List.length_append, Cr.mrow_len]
    simp
    omega
   ·
    simp at h1
    subst h1
    rw [List.length_append, Cr.onesTo_len]
    simp
    omega
  rw [e1] at e4
  rw [e1, e2, e3]
  have h5 : g.n.toNat + 1 ≤ 6 := by omega
  have h6 : (g.n.toNat + 1) * 31 ≤ 6 * 31 := Nat.mul_le_mul_right _ h5
  omega
end Go.Proofs.Ytpjnjidbdpfdcaa
