/- laws.eqIntS, markIntS, heldIntS: rows of integers compared, marked, and found as marked. -/
import Derived.Test.YtpidlmmpejoeaaaGreatGB
import Derived.Test.YtpidlmmpejoeaaaGreatCoA
namespace Go.Proofs.YtpidlmmpejoeaaaGreat
open Go.RowKit

def DrawnT (w : World) (e : Ending) (w' : World) : Prop := e = .returned (.bool true) ∧ ∃ d, w' = w.drewN d
def marksI (k n : Nat) : List Int := (List.range n).map fun j => ((k + j : Nat) : Int)
theorem marksI_len (k n : Nat) : (marksI k n).length = n := by simp [marksI]
theorem marksI_at (k n j : Nat) (h : j < n) : (marksI k n)[j]? = some ((k + j : Nat) : Int) := by simp [marksI, h]
theorem marksI_set (k j : Nat) (xs : List Int) (hj : j < xs.length) : (marksI k j ++ xs.drop j).set j ((k + j : Nat) : Int) = marksI k (j + 1) ++ xs.drop (j + 1) := by
 have hl := marksI_len k j
 rw [List.set_append_right _ _ (by omega), hl, Nat.sub_self, List.drop_eq_getElem_cons hj]
 have e : marksI k (j + 1) = marksI k j ++ [((k + j : Nat) : Int)] := by unfold marksI; rw [List.range_succ, List.map_append]; rfl
 rw [e]
 simp only [List.set_cons_zero, List.append_assoc, List.cons_append, List.nil_append]
theorem marksI_all (k : Nat) (xs : List Int) : marksI k xs.length ++ xs.drop xs.length = marksI k xs.length := by simp
def MarksPost (B k : Nat) (v : Value) (n : Nat) (w : World) (e : Ending) (w' : World) : Prop :=
 e = .returned (.int .i64 ((k : Int) + n)) ∧ OwnInts B w' v (marksI k n) ∧ w.grownBy w' v.ownBlock
theorem own_set {B g cap : Nat} {w : World} {xs : List Int} (h : OwnInts B w (.slice (some ⟨g, 0, none⟩) xs.length cap) xs) (j : Nat) (x : Int) : OwnInts B (w.setCell ⟨g, j, none⟩ (.int .i64 x)) (.slice (some ⟨g, 0, none⟩) (xs.set j x).length cap) (xs.set j x) := by
 have := World.ownsRow.stored h j (.int .i64 x)
 unfold OwnInts
 rw [List.length_set, List.map_set]
 exact this.1
theorem grown_set {w a : World} {g : Nat} (h : w.grownBy a (some g)) (j : Nat) (u : Value) : w.grownBy (a.setCell ⟨g, j, none⟩ u) (some g) :=
 ⟨h.os, h.tape, h.output, by have := h.size; simp; omega, fun k hk hne => by
  rw [Below.heap_setCell _ _ _ _ (show k ≠ g from fun e => hne (by rw [e]))]; exact h.block k hk hne⟩
end Go.Proofs.YtpidlmmpejoeaaaGreat
