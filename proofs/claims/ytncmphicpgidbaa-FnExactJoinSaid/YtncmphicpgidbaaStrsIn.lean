/- A slice of strings that came in; laws.szStringS, laws.toStringS over it. -/
import Derived.Test.YtncmphicpgidbaaChecked
import Derived.Handy
import Derived.Below
import Derived.LoopTactic
import Derived.Outline
import Derived.Lib.Hide
import Derived.WalkSpells
import Derived.WalkLawsBesides
import Derived.Laws.AppendOwn
import Derived.Laws.OwnMore
import Derived.OwnWalk
import Derived.OneCell
namespace Go.Proofs.Ytncmphicpgidbaa
open Go.RowKit

def StrsOf (B : Nat) (w : World) (a : Option Addr) (len : Nat) (xs : List ByteArray) : Prop :=
  len ≤ 9223372036854775807 ∧ xs.length = len ∧ ∀ i, i < len → ∃ b o : Nat, a = some ⟨b, o, none⟩ ∧ b < B ∧ w.cell? ⟨b, o + i, none⟩ = some (.string (xs.getD i ByteArray.empty)) ∧ (xs.getD i ByteArray.empty).size ≤ 9223372036854775807
theorem StrsOf.below {B : Nat} {w w' : World} {a : Option Addr} {len : Nat} {xs : List ByteArray} (h : StrsOf B w a len xs) (hb : Below B w w') : StrsOf B w' a len xs :=
  ⟨h.1, h.2.1, fun i hi => by obtain ⟨b, o, h1, h2, h3, h4⟩ := h.2.2 i hi; exact ⟨b, o, h1, h2, by rw [hb.cell (p := ⟨b, o + i, none⟩) h2]; exact h3, h4⟩⟩
theorem strs_of_nil (B : Nat) (w : World) : StrsOf B w none 0 [] := ⟨by decide, rfl, fun i h => absurd h (by omega)⟩
theorem strs_of {w : World} {x : Addr} {len cap : Nat} {ss : List ByteArray} (hl : len ≤ cap) (hm : cap ≤ maxLen) (hz : ss.length = cap)
    (hc : ∀ i, i < ss.length → w.cell? (x.add i) = some (.string (ss.getD i ByteArray.empty))) (hw : ∀ s ∈ ss, s.size ≤ maxLen) :
    StrsOf w.heap.size w (some x) len (ss.take len) := by
  refine ⟨by unfold maxLen at hm; omega, by rw [List.length_take]; omega, fun i hi => ?_⟩
  have h1 := hc i (by omega)
  obtain ⟨b, o, sp⟩ := x
  have hsp : sp = none := by
    have h2 := World.cell?_spot (hc 0 (by omega))
    unfold Addr.add at h2
    rw [if_pos (by decide)] at h2
    exact h2
  subst hsp
  have h2 : w.cell? ⟨b, o + i, none⟩ = some (.string (ss.getD i ByteArray.empty)) := by
    have h3 := h1
    unfold Addr.add at h3
    split at h3
    · rename_i h0
      have h4 : i = 0 := by simpa using h0
      subst h4
      exact h3
    · exact h3
  have e : (ss.take len).getD i ByteArray.empty = ss.getD i ByteArray.empty := by
    simp [List.getD_eq_getElem?_getD, hi]
  have hsz := hw (ss.getD i ByteArray.empty) (by
    rw [List.getD_eq_getElem?_getD, List.getElem?_eq_getElem (by omega)]
    exact List.getElem_mem _)
  unfold maxLen at hsz
  exact ⟨b, o, rfl, World.block_lt_of_cell? w ⟨b, o + i, none⟩ h2, by rw [e]; exact h2, by rw [e]; omega⟩

def total (xs : List ByteArray) : Nat := (xs.map (·.size)).sum
theorem total_next (xs : List ByteArray) (k : Nat) (h : k < xs.length) : total (xs.take (k + 1)) = total (xs.take k) + (xs.getD k ByteArray.empty).size := by
  unfold total
  rw [List.take_succ_eq_append_getElem h]
  rw [List.map_append, List.sum_append]
  simp [List.getD_eq_getElem?_getD, h]
def SzPost (xs : List ByteArray) (left : Int) (w : World) (e : Ending) (w' : World) : Prop :=
  ∃ r : Int, e = .returned (.int .i64 r) ∧ -1 ≤ r ∧ (0 ≤ r → (xs.length : Int) + (total xs : Int) + r = left) ∧ w = w'

set_option maxRecDepth 100000 in
set_option maxHeartbeats 400000 in
theorem sz_strs (B : Nat) (a : Option Addr) (len cap : Nat) (xs : List ByteArray) (left : Int) (hl0 : 0 ≤ left) (hl1 : left ≤ 1048576) (w : World) (hz : StrsOf B w a len xs) :
    Calls Try.prog 4 #[.slice a len cap, .int .i64 left] w (SzPost xs left w) := by
  have hlen := hz.1
  have hxl := hz.2.1
  have Hz := Lib.hid hz
  have Hxl := Lib.hid hxl
  clear hz hxl
  by_cases hneg : left - (len : Int) < 0
  · have hb : decide (left - (len : Int) < 0) = true := by rw [decide_eq_true_iff]; exact hneg
    go_enter Try.func4, Try.ntmps4
    go_wp2_with fail
    go_ret
    exact ⟨-1, rfl, by omega, fun h => by omega, rfl⟩
  · have hb : decide (left - (len : Int) < 0) = false := by rw [decide_eq_false_iff_not]; exact hneg
    go_enter Try.func4, Try.ntmps4
    go_wp2_with fail
    go_loop [1, 5] (fun q i => ∃ (k : Nat) (l : Int), k ≤ len ∧ 0 ≤ l ∧ l ≤ 1048576 ∧ q = .int .i64 l ∧ i = .int .i64 k ∧ Hid ((len : Int) + (total (xs.take k) : Int) + l = left)) (fun _ i => len - (intOf i).toNat)
    case atStart => exact ⟨0, _, Nat.zero_le _, by omega, by omega, rfl, rfl, by show _ = _; simp [total]; omega⟩
    case round =>
      obtain ⟨k, l, hk, hl, hl2, rfl, rfl, hrel⟩ := hrel
      by_cases hlt : k < len
      · obtain ⟨b, o, rfl, _, hcell, hsz⟩ := Hz.out.2.2 k hlt
        have ht := total_next xs k (by rw [Hxl.out]; exact hlt)
        by_cases hn : l - ((xs.getD k ByteArray.empty).size : Int) < 0
        · have hb2 : decide (l - ((xs.getD k ByteArray.empty).size : Int) < 0) = true := by rw [decide_eq_true_iff]; exact hn
          generalize xs.getD k ByteArray.empty = x at *
          clear ht
          go_wp2_with fail
          go_ret
          exact ⟨-1, rfl, by omega, fun h => by omega, rfl⟩
        · have hb2 : decide (l - ((xs.getD k ByteArray.empty).size : Int) < 0) = false := by rw [decide_eq_false_iff_not]; exact hn
          have Hr2 : Hid ((len : Int) + (total (xs.take (k + 1)) : Int) + (l - ((xs.getD k ByteArray.empty).size : Int)) = left) := by
            have := hrel.out
            show _ = _
            rw [ht]
            omega
          clear ht
          generalize xs.getD k ByteArray.empty = x at *
          go_wp2_with fail
          go_round
          case rel => exact ⟨k + 1, l - x.size, by omega, by omega, by omega, rfl, by go_num, Hr2⟩
          case measure => simp [intOf]; omega
      · have he : Hid ((xs.length : Int) + (total xs : Int) + l = left) := by
          have := hrel.out
          have e : xs.take k = xs := List.take_of_length_le (by rw [Hxl.out]; omega)
          rw [e] at this
          have := Hxl.out
          show _ = _
          omega
        go_wp2_with fail
        go_ret
        exact ⟨l, rfl, by omega, fun _ => he, rfl⟩

theorem info_str : (Try.prog.info? 9).map (fun i => (i.zero, i.size, i.bytes)) = some (some (.string ⟨#[]⟩), 1, 16) := by kernel_rfl
/-- A copy of the call's own. -/
def CopyPost (xs : List ByteArray) (w : World) (e : Ending) (w' : World) : Prop :=
  ∃ g, e = .returned (.slice (some ⟨g, 0, none⟩) xs.length xs.length) ∧ w.heap.size ≤ g ∧ g < w'.heap.size ∧ (∀ j x, xs[j]? = some x → w'.cell? ⟨g, j, none⟩ = some (.string x)) ∧ Below w.heap.size w w'
/-- The first k cells are copied. -/
def Copied (B g n k : Nat) (wr : World) (xs : List ByteArray) : Prop :=
  ∃ L : List Value, wr.ownsRow B 9 1 (.slice (some ⟨g, 0, none⟩) n n) n L ∧ ∀ j x, j < k → xs[j]? = some x → L[j]? = some (.string x)
theorem copied_next {B g n k : Nat} {wr : World} {xs : List ByteArray} (h : Copied B g n k wr xs) (hk : k < n) (x : ByteArray) (hx : xs[k]? = some x) : Copied B g n (k + 1) (wr.setCell ⟨g, k, none⟩ (.string x)) xs := by
  obtain ⟨L, h1, h2⟩ := h
  have hl : L.length = n := by have := h1.1; omega
  refine ⟨L.set k (.string x), (h1.stored k (.string x)).1, fun j y hj hy => ?_⟩
  by_cases e : j = k
  · subst e
    rw [List.getElem?_set_self (by omega)]
    rw [hx] at hy
    rw [Option.some.inj hy]
  · rw [List.getElem?_set_ne (fun h => e h.symm)]
    exact h2 j y (by omega) hy

set_option maxRecDepth 100000 in
set_option maxHeartbeats 400000 in
theorem to_strs (a : Option Addr) (len cap : Nat) (xs : List ByteArray) (hl : len ≤ 1048576) (w : World) (hz : StrsOf w.heap.size w a len xs) :
    Calls Try.prog 6 #[.slice a len cap] w (CopyPost xs w) := by
  have hxl := hz.2.1
  have Hz := Lib.hid hz
  have Hxl := Lib.hid hxl
  obtain ⟨i0, hi, hz0, hz1, hz2⟩ := info_parts info_str
  have HI := Lib.hid hi
  have HZ0 := Lib.hid hz0
  have HZ1 := Lib.hid hz1
  have hby : i0.bytes * len ≤ 281474976710656 := by rw [hz2]; omega
  have Hby := Lib.hid hby
  clear hz hxl hi hz0 hz1 hz2 hby
  go_enter Try.func6, Try.ntmps6
  go_wp2_with (refine wpList_make_full _ rfl _ _ 22 rfl w.heap.size 9 i0 (.string ⟨#[]⟩) 1 Try.underlying22 HI.out HZ0.out HZ1.out _ _ _ _ len rfl rfl rfl rfl Hby.out ?c1 (Nat.le_refl _) ?_)
  case c1 => unfold maxLen; omega
  intro w1 hown hgrow
  have Hown : Hid (Copied w.heap.size w.heap.size len 0 w1 xs) := ⟨_, hown, fun j x hj _ => absurd hj (by omega)⟩
  have Hb1 := Lib.hid ((Below.refl w.heap.size w).grown hgrow (Nat.le_refl _) (fun k hk => by cases hk))
  have hlt1 : w.heap.size < w1.heap.size := (hown.lt _ rfl).2
  clear hown hgrow
  go_wp2_with fail
  go_loopw [4] (fun i wr => ∃ k : Nat, k ≤ len ∧ i = .int .i64 k ∧ w.heap.size < wr.heap.size ∧ Hid (Copied w.heap.size w.heap.size len k wr xs) ∧ Hid (Below w.heap.size w wr)) (fun i _ => len - (intOf i).toNat)
  case atStart => exact ⟨0, Nat.zero_le _, rfl, hlt1, Hown, Hb1⟩
  case round =>
    obtain ⟨k, hk, rfl, hgl, hC, hB⟩ := hrel
    by_cases hlt : k < len
    · obtain ⟨b, o, rfl, hbB, hcell, hsz⟩ := (Hz.out.below hB.out).2.2 k hlt
      have hx : xs[k]? = some (xs.getD k ByteArray.empty) := by
        have : k < xs.length := by rw [Hxl.out]; exact hlt
        rw [List.getD_eq_getElem?_getD, List.getElem?_eq_getElem this]; rfl
      have HC2 := Lib.hid (copied_next hC.out hlt _ hx)
      have hgc : ∃ v, wr.cell? ⟨w.heap.size, k, none⟩ = some v := by
        obtain ⟨L, h1, _⟩ := hC.out
        have hl2 := h1.1
        exact ⟨L[k], by rw [h1.cellAt k (by omega), List.getElem?_eq_getElem (by omega)]⟩
      obtain ⟨v, hv⟩ := hgc
      have hf : wr.frozen? ⟨w.heap.size, k, none⟩ = false := by
        obtain ⟨L, h1, _⟩ := hC.out
        exact h1.frozenAt k
      have HB2 := Lib.hid (hB.out.setCell (p := ⟨w.heap.size, k, none⟩) (Nat.le_refl _) (.string (xs.getD k ByteArray.empty)))
      clear hx
      generalize xs.getD k ByteArray.empty = x at *
      go_wp2_with fail
      go_roundw
      case rel => exact ⟨k + 1, by omega, by go_num, by simp; omega, HC2, HB2⟩
      case measure => simp [intOf]; omega
    · have he : k = len := by omega
      subst he
      have Hc : Hid (∀ j x, xs[j]? = some x → wr.cell? ⟨w.heap.size, j, none⟩ = some (.string x)) := by
        obtain ⟨L, h1, h2⟩ := hC.out
        intro j x hx
        have hj : j < xs.length := (List.getElem?_eq_some_iff.1 hx).1
        rw [h1.cellAt j (by rw [← Hxl.out]; omega)]
        exact h2 j x (by rw [← Hxl.out]; exact hj) hx
      go_wp2_with fail
      go_ret
      exact ⟨_, by rw [Hxl.out]; rfl, Nat.le_refl _, hgl, Hc, hB⟩
end Go.Proofs.Ytncmphicpgidbaa
