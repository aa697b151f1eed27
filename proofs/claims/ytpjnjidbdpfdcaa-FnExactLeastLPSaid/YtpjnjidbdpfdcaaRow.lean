/- A slice of integers that came in: its elements, cell by cell. -/
import Derived.Test.YtpjnjidbdpfdcaaRows
import Derived.ProofKit
import Derived.OpenShut
namespace Go.Proofs.Ytpjnjidbdpfdcaa
open Go.RowKit

def IntsAt (k : IntKind) (B : Nat) (w : World) (a : Option Addr) (len : Nat) (zs : List Int) : Prop :=
 len ≤ 9223372036854775807 ∧ zs.length = len ∧ ∀ i, i < len → ∃ b o : Nat, a = some ⟨b, o, none⟩ ∧ b < B ∧ w.cell? ⟨b, o + i, none⟩ = some (.int k (zs.getD i 0)) ∧ (Lit.int k (zs.getD i 0)).wf = true
theorem lt_of_cell {w : World} {p : Addr} {v : Value} (h : w.cell? p = some v) : p.block < w.heap.size := by
 rcases Nat.lt_or_ge p.block w.heap.size with h1 | h1
 ·
  exact h1
 ·
  unfold World.cell? at h
  rw [Array.getElem?_eq_none h1] at h
  split at h <;> simp_all
theorem ints_at_nil (k : IntKind) (B : Nat) (w : World) : IntsAt k B w none 0 [] := ⟨by decide, rfl, fun i h => absurd h (by omega)⟩
theorem ints_at {k : IntKind} {w : World} {x : Addr} {len cap : Nat} {zs : List Int} (hl : len ≤ cap) (hm : cap ≤ maxLen) (hz : zs.length = cap)
  (hc : ∀ i, i < zs.length → w.cell? (x.add i) = some (.int k (zs.getD i 0))) (hw : ∀ n ∈ zs, (Lit.int k n).wf = true) :
  IntsAt k w.heap.size w (some x) len (zs.take len) := by
 refine ⟨by unfold maxLen at hm; omega, by rw [List.length_take]; omega, fun i hi => ?_⟩
 have h1 := hc i (by omega)
 obtain ⟨b, o, sp⟩ := x
 have hsp : sp = none := by
  have h2 := World.cell?_spot (hc 0 (by omega))
  unfold Addr.add at h2
  rw [if_pos (by decide)] at h2
  exact h2
 subst hsp
 have h2 : w.cell? ⟨b, o + i, none⟩ = some (.int k (zs.getD i 0)) := by
  have h3 := h1
  unfold Addr.add at h3
  split at h3
  ·
   rename_i h0
   have h4 : i = 0 := by simpa using h0
   subst h4
   exact h3
  ·
   exact h3
 have e : (zs.take len).getD i 0 = zs.getD i 0 := by
  simp [List.getD_eq_getElem?_getD, hi]
 refine ⟨b, o, rfl, lt_of_cell (p := ⟨b, o + i, none⟩) h2, by rw [e]; exact h2, ?_⟩
 rw [e]
 apply hw
 rw [List.getD_eq_getElem?_getD, List.getElem?_eq_getElem (by omega)]
 exact List.getElem_mem _
end Go.Proofs.Ytpjnjidbdpfdcaa
