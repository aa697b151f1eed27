/- Slices of ints that came in, as the laws take them. -/
import Derived.Test.YtpjnjidbdpfdcaaNumI
import Derived.Deep.Matrix
import Derived.Lib.SmallJoins
namespace Go.Proofs.Ytpjnjidbdpfdcaa
open Go.RowKit Go.Deep Go.ChangeShapes Go.WideShapes
theorem plain_of {W : World} {a : Addr} {v : Value} (h : W.cell? (a.add 0) = some v) : ∃ b o, a = ⟨b, o, none⟩ := by
 obtain ⟨b, o, sp⟩ := a
 have h2 := World.cell?_spot h
 unfold Addr.add at h2
 rw [if_pos (by decide)] at h2
 have hs : sp = none := h2
 subst hs
 exact ⟨b, o, rfl⟩
theorem nums_of {W : World} {A : Option Addr} {l : Nat} {zs : List Int} (hl : l ≤ zs.length) (hn : A = none → l = 0) (hc : ∀ a', A = some a' → ∀ c, c < zs.length → W.cell? (a'.add c) = some (.int .i64 (zs.getD c 0))) : NumsIn W.heap.size W A (zs.take l) := fun j hj => by
 have hj2 : j < l := by simp at hj; omega
 cases hA : A with
 | none => have := hn hA; omega
 | some a =>
  have h0 := hc a hA 0 (by omega)
  obtain ⟨b, o, rfl⟩ := plain_of h0
  have h1 := hc _ hA j (by omega)
  rw [add_at] at h1
  refine ⟨b, o, rfl, block_lt_of_cell (a := ⟨b, o + j, none⟩) h1, ?_⟩
  rw [h1]
  simp [List.getD_eq_getElem?_getD, hj2]
theorem ints_open {H : Type} {enc : TypeId × Value → H} {W : World} {fuel : Nat} {v : Value} {x : DataW H × List MemPlace}
  (h : DataW.trod enc Try.prog W 0 (fun _ => true) true fuel 22 [v] = some x) : ∃ (a : Option Addr) (c : Nat) (l : List Int), v = .slice a l.length c ∧ l.length ≤ 9223372036854775807 ∧ NumsIn W.heap.size W a l := by
 rcases open_ints Try.underlying22 Try.underlying3 (by kernel_rfl) h with ⟨hcs, _⟩ | ⟨a, len, cap, zs, hcs, _, hl, hm, hz, _, hcell, hwz⟩
 ·
  simp at hcs
  subst hcs
  exact ⟨none, 0, [], rfl, by decide, fun j hj => by simp at hj⟩
 ·
  simp at hcs
  subst hcs
  simp only [if_true] at hz
  unfold maxLen at hm
  refine ⟨some a, cap, zs.take len, ?_, ?_, nums_of (by omega) (fun e => by cases e) fun a' e c hc => ?_⟩
  ·
   rw [List.length_take]; congr 1; omega
  ·
   rw [List.length_take]; omega
  ·
   cases e; exact hcell c hc
end Go.Proofs.Ytpjnjidbdpfdcaa
