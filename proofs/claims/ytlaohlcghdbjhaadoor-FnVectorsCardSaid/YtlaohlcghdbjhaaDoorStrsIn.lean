/- A slice of strings that came in; laws.szStringS, laws.toStringS over it. -/
import Derived.Test.YtlaohlcghdbjhaaDoorChecked
import Derived.Handy
import Derived.Below
import Derived.LoopTactic
import Derived.Outline
import Derived.Lib.Hide
import Derived.WalkSpells
import Derived.WalkLawsBesides
import Derived.Laws.AppendOwn
import Derived.Laws.OwnMore
import Derived.OwnWalk
import Derived.OneCell
namespace Go.Proofs.YtlaohlcghdbjhaaDoor
open Go.RowKit

def StrsOf (B : Nat) (w : World) (a : Option Addr) (len : Nat) (xs : List ByteArray) : Prop :=
  len ≤ 9223372036854775807 ∧ xs.length = len ∧ ∀ i, i < len → ∃ b o : Nat, a = some ⟨b, o, none⟩ ∧ b < B ∧ w.cell? ⟨b, o + i, none⟩ = some (.string (xs.getD i ByteArray.empty)) ∧ (xs.getD i ByteArray.empty).size ≤ 9223372036854775807
theorem StrsOf.below {B : Nat} {w w' : World} {a : Option Addr} {len : Nat} {xs : List ByteArray} (h : StrsOf B w a len xs) (hb : Below B w w') : StrsOf B w' a len xs :=
  ⟨h.1, h.2.1, fun i hi => by obtain ⟨b, o, h1, h2, h3, h4⟩ := h.2.2 i hi; exact ⟨b, o, h1, h2, by rw [hb.cell (p := ⟨b, o + i, none⟩) h2]; exact h3, h4⟩⟩
theorem strs_of_nil (B : Nat) (w : World) : StrsOf B w none 0 [] := ⟨by decide, rfl, fun i h => absurd h (by omega)⟩
theorem strs_of {w : World} {x : Addr} {len cap : Nat} {ss : List ByteArray} (hl : len ≤ cap) (hm : cap ≤ maxLen) (hz : ss.length = cap)
    (hc : ∀ i, i < ss.length → w.cell? (x.add i) = some (.string (ss.getD i ByteArray.empty))) (hw : ∀ s ∈ ss, s.size ≤ maxLen) :
    StrsOf w.heap.size w (some x) len (ss.take len) := by
  refine ⟨by unfold maxLen at hm; omega, by rw [List.length_take]; omega, fun i hi => ?_⟩
  have h1 := hc i (by omega)
  obtain ⟨b, o, sp⟩ := x
  have hsp : sp = none := by
    have h2 := World.cell?_spot (hc 0 (by omega))
    unfold Addr.add at h2
    rw [if_pos (by decide)] at h2
    exact h2
  subst hsp
  have h2 : w.cell? ⟨b, o + i, none⟩ = some (.string (ss.getD i ByteArray.empty)) := by
    have h3 := h1
    unfold Addr.add at h3
    split at h3
    · rename_i h0
      have h4 : i = 0 := by simpa using h0
      subst h4
      exact h3
    · exact h3
  have e : (ss.take len).getD i ByteArray.empty = ss.getD i ByteArray.empty := by
    simp [List.getD_eq_getElem?_getD, hi]
  have hsz := hw (ss.getD i ByteArray.empty) (by
    rw [List.getD_eq_getElem?_getD, List.getElem?_eq_getElem (by omega)]
    exact List.getElem_mem _)
  unfold maxLen at hsz
  exact ⟨b, o, rfl, World.block_lt_of_cell? w ⟨b, o + i, none⟩ h2, by rw [e]; exact h2, by rw [e]; omega⟩

def total (xs : List ByteArray) : Nat := (xs.map (·.size)).sum
theorem total_next (xs : List ByteArray) (k : Nat) (h : k < xs.length) : total (xs.take (k + 1)) = total (xs.take k) + (xs.getD k ByteArray.empty).size := by
  unfold total
  rw [List.take_succ_eq_append_getElem h]
  rw [List.map_append, List.sum_append]
  simp [List.getD_eq_getElem?_getD, h]
def SzPost (xs : List ByteArray) (left : Int) (w : World) (e : Ending) (w' : World) : Prop :=
  ∃ r : Int, e = .returned (.int .i64 r) ∧ -1 ≤ r ∧ (0 ≤ r → (xs.length : Int) + (total xs : Int) + r = left) ∧ w = w'

theorem info_str : (Tryd.prog.info? 9).map (fun i => (i.zero, i.size, i.bytes)) = some (some (.string ⟨#[]⟩), 1, 16) := by kernel_rfl
/-- A copy of the call's own. -/
def CopyPost (xs : List ByteArray) (w : World) (e : Ending) (w' : World) : Prop :=
  ∃ g, e = .returned (.slice (some ⟨g, 0, none⟩) xs.length xs.length) ∧ w.heap.size ≤ g ∧ g < w'.heap.size ∧ (∀ j x, xs[j]? = some x → w'.cell? ⟨g, j, none⟩ = some (.string x)) ∧ Below w.heap.size w w'
/-- The first k cells are copied. -/
def Copied (B g n k : Nat) (wr : World) (xs : List ByteArray) : Prop :=
  ∃ L : List Value, wr.ownsRow B 9 1 (.slice (some ⟨g, 0, none⟩) n n) n L ∧ ∀ j x, j < k → xs[j]? = some x → L[j]? = some (.string x)
theorem copied_next {B g n k : Nat} {wr : World} {xs : List ByteArray} (h : Copied B g n k wr xs) (hk : k < n) (x : ByteArray) (hx : xs[k]? = some x) : Copied B g n (k + 1) (wr.setCell ⟨g, k, none⟩ (.string x)) xs := by
  obtain ⟨L, h1, h2⟩ := h
  have hl : L.length = n := by have := h1.1; omega
  refine ⟨L.set k (.string x), (h1.stored k (.string x)).1, fun j y hj hy => ?_⟩
  by_cases e : j = k
  · subst e
    rw [List.getElem?_set_self (by omega)]
    rw [hx] at hy
    rw [Option.some.inj hy]
  · rw [List.getElem?_set_ne (fun h => e h.symm)]
    exact h2 j y (by omega) hy

end Go.Proofs.YtlaohlcghdbjhaaDoor
