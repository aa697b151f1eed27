/- A slice of fractions that came in, as the laws take it. -/
import Derived.Test.YtlaohlcghdbjhaaDoorVec
import Derived.Deep.SlicePairs
import Derived.ChangeArms
import Derived.OpenShut
namespace Go.Proofs.YtlaohlcghdbjhaaDoor
open Go.RowKit Go.Deep Go.ChangeShapes Go.WideShapes
open Ve (R)
theorem add_at (b o i : Nat) : (⟨b, o, none⟩ : Addr).add i = ⟨b, o + i, none⟩ := by
  unfold Addr.add
  split
  · rename_i h
    have h4 : i = 0 := by simpa using h
    subst h4; rfl
  · rfl
theorem rats_open {H : Type} {enc : TypeId × Value → H} {W : World} {fuel : Nat} {a : Option Addr} {len cap : Nat} {x : DataW H × List MemPlace}
    (h : DataW.trod enc Tryd.prog W 0 (fun _ => true) true fuel 40 [.slice a len cap] = some x) : ∃ zs : List R, zs.length = len ∧ len ≤ 9223372036854775807 ∧ RatsIn W.heap.size W a zs := by
  rcases open_slice_pairs Tryd.underlying40 Tryd.underlying67 (by kernel_rfl) rfl rfl (by kernel_rfl) (by kernel_rfl) h with ⟨hcs, _⟩ | ⟨a', len', cap', m, n, V0, V1, D0, D1, P0, P1, hcs, _, hl, hm, hmm, _, hi⟩
  · simp at hcs
    obtain ⟨rfl, rfl, rfl⟩ := hcs
    exact ⟨[], rfl, by decide, RatsIn.nil _ _ _⟩
  · simp at hcs
    obtain ⟨rfl, rfl, rfl⟩ := hcs
    have hlm : len ≤ m := by rw [hmm]; split <;> omega
    refine ⟨(List.range len).map fun i => (intOf (V0 i), intOf (V1 i)), by simp, by unfold maxLen at hm; omega, fun j y hy => ?_⟩
    have hj : j < len := by have := (List.getElem?_eq_some_iff.1 hy).1; simpa using this
    obtain ⟨c0, c1, t0, t1⟩ := hi j (by omega)
    obtain ⟨n0, e0, _, _⟩ := DataW.trod_int Tryd.underlying3 t0
    obtain ⟨n1, e1, _, _⟩ := DataW.trod_int Tryd.underlying3 t1
    simp only [List.cons.injEq, and_true] at e0 e1
    obtain rfl : (intOf (V0 j), intOf (V1 j)) = y := by simpa [hj] using hy
    obtain ⟨b, o, sp⟩ := a'
    have hsp : sp = none := by
      obtain ⟨d0, d1, _, _⟩ := hi 0 (by omega)
      have h2 := World.cell?_spot d0
      unfold Addr.add at h2
      rw [if_pos (by decide)] at h2
      exact h2
    subst hsp
    rw [add_at] at c0 c1
    have hb : b < W.heap.size := block_lt_of_cell (a := ⟨b, o + j * 2, none⟩) c0
    refine ⟨b, o, rfl, hb, ?_, ?_⟩
    · rw [c0, e0]; rfl
    · rw [show o + j * 2 + 1 = o + (j * 2 + 1) by omega, c1, e1]; rfl
end Go.Proofs.YtlaohlcghdbjhaaDoor
