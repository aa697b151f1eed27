/- The parts LkI, VeI, LkRow. -/
import Derived.Test.YtpidlmmpejoeaaaGreatNumI
import Derived.Test.YtpidlmmpejoeaaaGreatLkBase
import Derived.Test.YtpidlmmpejoeaaaGreatGVa
import Derived.Test.YtpidlmmpejoeaaaGreatGVb
import Derived.Test.YtpidlmmpejoeaaaGreatIntsLaw
import Derived.Test.YtpidlmmpejoeaaaGreatRow
namespace Go.Proofs.YtpidlmmpejoeaaaGreat
open Go.RowKit
theorem OwnInts.same {B : Nat} {w w' : World} {v : Value} {xs : List Int} (h : OwnInts B w v xs) (hs : ∀ g, v.ownBlock = some g → w'.heap[g]? = w.heap[g]?) : OwnInts B w' v xs := by
 obtain ⟨h1, h2 | ⟨g, cap, cur, rfl, hg, hh, hr⟩⟩ := h
 ·
  exact ⟨h1, .inl h2⟩
 ·
  exact ⟨h1, .inr ⟨g, cap, cur, rfl, hg, (hs g rfl).trans hh, hr⟩⟩
theorem OwnInts.turned {lo hi B : Nat} {w w' : World} {v : Value} {xs : List Int} (h : OwnInts B w v xs) (ht : Turned lo hi w w') (hB : ∀ g, v.ownBlock = some g → g < lo ∨ hi ≤ g) : OwnInts B w' v xs :=
 h.same fun g hg => ht.block g (World.ownsRow.lt h g hg).2 (hB g hg)
def RowAtI (lo hi : Nat) (w : World) (u : Value) (xs : List Int) : Prop := ∃ (a : Option Addr) (c : Nat), u = .slice a xs.length c ∧ (xs.length ≠ 0 → OwnInts lo w u xs ∧ ∀ g, u.ownBlock = some g → g < hi)
def Blk (u : Value) (n b : Nat) : Prop := n ≠ 0 ∧ u.ownBlock = some b
theorem RowAtI.of_own {lo hi : Nat} {w : World} {u : Value} {xs : List Int} (h : OwnInts lo w u xs) (hb : ∀ g, u.ownBlock = some g → g < hi) : RowAtI lo hi w u xs := by
 obtain ⟨a, c, rfl, _⟩ := own_reads h
 exact ⟨a, c, rfl, fun _ => ⟨h, hb⟩⟩
theorem RowAtI.blk {lo hi : Nat} {w : World} {u : Value} {xs : List Int} (h : RowAtI lo hi w u xs) {b : Nat} (hb : Blk u xs.length b) : lo ≤ b ∧ b < hi ∧ b < w.heap.size := by
 obtain ⟨a, c, rfl, h2⟩ := h
 obtain ⟨h3, h4⟩ := h2 hb.1
 have := World.ownsRow.lt h3 b hb.2
 exact ⟨this.1, h4 b hb.2, this.2⟩
theorem RowAtI.same {lo hi : Nat} {w w' : World} {u : Value} {xs : List Int} (h : RowAtI lo hi w u xs) (hs : ∀ b, Blk u xs.length b → w'.heap[b]? = w.heap[b]?) : RowAtI lo hi w' u xs := by
 obtain ⟨a, c, rfl, h2⟩ := h
 exact ⟨a, c, rfl, fun hn => ⟨(h2 hn).1.same fun g hg => hs g ⟨hn, hg⟩, (h2 hn).2⟩⟩
theorem RowAtI.below {lo hi : Nat} {w w' : World} {u : Value} {xs : List Int} (h : RowAtI lo hi w u xs) (hb : Below w.heap.size w w') : RowAtI lo hi w' u xs := h.same fun b h1 => hb.block b (h.blk h1).2.2
theorem RowAtI.reads {lo hi : Nat} {w : World} {u : Value} {xs : List Int} (h : RowAtI lo hi w u xs) : ∃ (a : Option Addr) (c : Nat), u = .slice a xs.length c ∧ NumsIn hi w a xs := by
 obtain ⟨a, c, rfl, h2⟩ := h
 refine ⟨a, c, rfl, fun j hj => ?_⟩
 obtain ⟨h3, h4⟩ := h2 (by omega)
 obtain ⟨a', c', e, hr, hp, _⟩ := own_reads h3
 obtain ⟨rfl, rfl⟩ : a = a' ∧ c = c' := by injection e with e1 _ e3; exact ⟨e1, e3⟩
 exact NumsIn.of_ints (B := hi) hr (fun p hp => h4 p.block (by rw [hp]; rfl)) j hj
theorem RowAtI.turned {lo hi l2 h2 : Nat} {w w' : World} {u : Value} {xs : List Int} (h : RowAtI lo hi w u xs) (ht : Turned l2 h2 w w') (ha : hi ≤ l2 ∨ h2 ≤ lo) : RowAtI lo hi w' u xs := h.same fun b hb => by
 have := h.blk hb
 exact ht.block b this.2.2 (by omega)
theorem OwnInts.raise2 {B B' : Nat} {w : World} {v : Value} {xs : List Int} (h : OwnInts B w v xs) (hB : B' ≤ B) : OwnInts B' w v xs := by
 obtain ⟨h1, h2 | ⟨g, cap, cur, e, hg, rest⟩⟩ := h
 ·
  exact ⟨h1, .inl h2⟩
 ·
  exact ⟨h1, .inr ⟨g, cap, cur, e, by omega, rest⟩⟩
theorem RowAtI.wider {lo hi lo' hi' : Nat} {w : World} {u : Value} {xs : List Int} (h : RowAtI lo hi w u xs) (h1 : lo' ≤ lo) (h2 : hi ≤ hi') : RowAtI lo' hi' w u xs := by
 obtain ⟨a, c, rfl, k⟩ := h
 exact ⟨a, c, rfl, fun hn => ⟨(k hn).1.raise2 h1, fun g hg => Nat.lt_of_lt_of_le ((k hn).2 g hg) h2⟩⟩
def SzR (n : Nat) (left : Int) (w : World) (e : Ending) (w' : World) : Prop :=
 ∃ r : Int, e = .returned (.int .i64 r) ∧ -1 ≤ r ∧ r ≤ 1048576 ∧ (0 ≤ r → (n : Int) + r = left) ∧ w = w'
end Go.Proofs.YtpidlmmpejoeaaaGreat

namespace Go.Proofs.YtpidlmmpejoeaaaGreat
open Go.RowKit
open Ve (R)
end Go.Proofs.YtpidlmmpejoeaaaGreat

namespace Go.Proofs.YtpidlmmpejoeaaaGreat
open Go.RowKit
open Ve (R)
theorem OwnRats.same {B : Nat} {w w' : World} {v : Value} {xs : List R} (h : OwnRats B w v xs) (hs : ∀ g, v.ownBlock = some g → w'.heap[g]? = w.heap[g]?) : OwnRats B w' v xs := by
 obtain ⟨h1, h2 | ⟨g, cap, cur, rfl, hg, hh, hr⟩⟩ := h
 ·
  exact ⟨h1, .inl h2⟩
 ·
  exact ⟨h1, .inr ⟨g, cap, cur, rfl, hg, (hs g rfl).trans hh, hr⟩⟩
theorem OwnRats.turned {lo hi B : Nat} {w w' : World} {v : Value} {xs : List R} (h : OwnRats B w v xs) (ht : Turned lo hi w w') (hB : ∀ g, v.ownBlock = some g → g < lo ∨ hi ≤ g) : OwnRats B w' v xs :=
 h.same fun g hg => ht.block g (World.ownsRow.lt h g hg).2 (hB g hg)
theorem OwnRats.raise {B B' : Nat} {w : World} {v : Value} {xs : List R} (h : OwnRats B w v xs) (hB : B' ≤ B) : OwnRats B' w v xs := by
 obtain ⟨h1, h2 | ⟨g, cap, cur, e, hg, rest⟩⟩ := h
 ·
  exact ⟨h1, .inl h2⟩
 ·
  exact ⟨h1, .inr ⟨g, cap, cur, e, by omega, rest⟩⟩
/-! ### A row: of the call's own, in a block from lo to hi - 1, or empty -/
def RowAt (lo hi : Nat) (w : World) (u : Value) (xs : List R) : Prop := ∃ (a : Option Addr) (c : Nat), u = .slice a xs.length c ∧ (xs.length ≠ 0 → OwnRats lo w u xs ∧ ∀ g, u.ownBlock = some g → g < hi)
theorem RowAt.of_own {lo hi : Nat} {w : World} {u : Value} {xs : List R} (h : OwnRats lo w u xs) (hb : ∀ g, u.ownBlock = some g → g < hi) : RowAt lo hi w u xs := by
 obtain ⟨a, c, rfl, _⟩ := own_rats h
 exact ⟨a, c, rfl, fun _ => ⟨h, hb⟩⟩
theorem RowAt.blk {lo hi : Nat} {w : World} {u : Value} {xs : List R} (h : RowAt lo hi w u xs) {b : Nat} (hb : Blk u xs.length b) : lo ≤ b ∧ b < hi ∧ b < w.heap.size := by
 obtain ⟨a, c, rfl, h2⟩ := h
 obtain ⟨h3, h4⟩ := h2 hb.1
 have := World.ownsRow.lt h3 b hb.2
 exact ⟨this.1, h4 b hb.2, this.2⟩
theorem RowAt.same {lo hi : Nat} {w w' : World} {u : Value} {xs : List R} (h : RowAt lo hi w u xs) (hs : ∀ b, Blk u xs.length b → w'.heap[b]? = w.heap[b]?) : RowAt lo hi w' u xs := by
 obtain ⟨a, c, rfl, h2⟩ := h
 exact ⟨a, c, rfl, fun hn => ⟨(h2 hn).1.same fun g hg => hs g ⟨hn, hg⟩, (h2 hn).2⟩⟩
theorem RowAt.below {lo hi : Nat} {w w' : World} {u : Value} {xs : List R} (h : RowAt lo hi w u xs) (hb : Below w.heap.size w w') : RowAt lo hi w' u xs := h.same fun b h1 => hb.block b (h.blk h1).2.2
theorem RowAt.reads {lo hi : Nat} {w : World} {u : Value} {xs : List R} (h : RowAt lo hi w u xs) : ∃ (a : Option Addr) (c : Nat), u = .slice a xs.length c ∧ RatsIn hi w a xs := by
 obtain ⟨a, c, rfl, h2⟩ := h
 refine ⟨a, c, rfl, fun j x hx => ?_⟩
 have hn : xs.length ≠ 0 := by have := (List.getElem?_eq_some_iff.1 hx).1; omega
 obtain ⟨h3, h4⟩ := h2 hn
 obtain ⟨a', c', e, hr, _⟩ := own_rats h3
 obtain ⟨rfl, rfl⟩ : a = a' ∧ c = c' := by injection e with e1 _ e3; exact ⟨e1, e3⟩
 exact (hr.narrow fun p hp => h4 p.block (by rw [hp]; rfl)) j x hx
theorem RowAt.wider {lo hi lo' hi' : Nat} {w : World} {u : Value} {xs : List R} (h : RowAt lo hi w u xs) (h1 : lo' ≤ lo) (h2 : hi ≤ hi') : RowAt lo' hi' w u xs := by
 obtain ⟨a, c, rfl, k⟩ := h
 exact ⟨a, c, rfl, fun hn => ⟨(k hn).1.raise h1, fun g hg => Nat.lt_of_lt_of_le ((k hn).2 g hg) h2⟩⟩
theorem RowAt.turned {lo hi l2 h2 : Nat} {w w' : World} {u : Value} {xs : List R} (h : RowAt lo hi w u xs) (ht : Turned l2 h2 w w') (ha : hi ≤ l2 ∨ h2 ≤ lo) : RowAt lo hi w' u xs := h.same fun b hb => by
 have := h.blk hb
 exact ht.block b this.2.2 (by omega)
end Go.Proofs.YtpidlmmpejoeaaaGreat
