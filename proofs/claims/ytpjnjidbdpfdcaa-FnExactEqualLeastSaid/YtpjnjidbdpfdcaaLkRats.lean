/- Kinds of arguments and results of exact laws: slices of fractions, of ints. -/
import Derived.Test.YtpjnjidbdpfdcaaGK
namespace Go.Proofs.Ytpjnjidbdpfdcaa
open Go.RowKit
open Ve (R)
def InRats (w : World) (v : Value) (xs : List R) : Prop := ∃ (a : Option Addr) (c : Nat), v = .slice a xs.length c ∧ RatsIn w.heap.size w a xs
theorem InRats.up {w w' : World} {v : Value} {xs : List R} (h : InRats w v xs) (hb : Below w.heap.size w w') : InRats w' v xs := by
 obtain ⟨a, c, e, hi⟩ := h
 exact ⟨a, c, e, (hi.below hb).mono hb.size⟩
theorem InRats.rg {w : World} {v : Value} {xs : List R} (h : InRats w v xs) : Rg (fun w' => InRats w' v xs) 0 w.heap.size w :=
 ⟨h, Nat.le_refl _, fun w' hs hk => by
  obtain ⟨a, c, e, hi⟩ := h
  refine ⟨a, c, e, RatsIn.mono (fun j x hx => ?_) hs⟩
  obtain ⟨b, o, e1, h2, h3, h4⟩ := hi j x hx
  have hc : ∀ i, w'.cell? ⟨b, i, none⟩ = w.cell? ⟨b, i, none⟩ := fun i => World.cell?_of_block (w := w) (a := ⟨b, i, none⟩) (hk b (Nat.zero_le _) h2)
  exact ⟨b, o, e1, h2, by rw [hc]; exact h3, by rw [hc]; exact h4⟩⟩
def RsRats (lo hi : Nat) (w : World) (v : Value) (xs : List R) : Prop := RowAt lo hi w v xs ∧ hi ≤ w.heap.size
theorem RsRats.rg {lo hi : Nat} {w : World} {v : Value} {xs : List R} (h : RsRats lo hi w v xs) : Rg (fun w' => RsRats lo hi w' v xs) lo hi w :=
 ⟨h, h.2, fun w' hs hk => ⟨h.1.same fun b hb => by have := h.1.blk hb; exact hk b this.1 this.2.1, Nat.le_trans h.2 hs⟩⟩
theorem RsRats.reads {lo hi : Nat} {w : World} {v : Value} {xs : List R} (h : RsRats lo hi w v xs) : InRats w v xs := by
 obtain ⟨a, c, e, hr⟩ := h.1.reads
 exact ⟨a, c, e, hr.mono h.2⟩
theorem rats_new {w w' : World} {v : Value} {xs : List R} (ho : OwnRats w.heap.size w' v xs) : RsRats w.heap.size w'.heap.size w' v xs :=
 ⟨RowAt.of_own ho fun g hg => (World.ownsRow.lt ho g hg).2, Nat.le_refl _⟩
theorem szRats_k {w : World} {v : Value} {xs : List R} (h : InRats w v xs) (hn : xs.length ≤ 9223372036854775807) (left : Int) (hl0 : 0 ≤ left) (hl1 : left ≤ 1048576) :
  Calls Try.prog 39 #[v, .int .i64 left] w fun e w' => (∃ r : Int, e = .returned (.int .i64 r) ∧ -1 ≤ r ∧ r ≤ 1048576 ∧ (0 ≤ r → (xs.length : Int) + r = left)) ∧ Below w.heap.size w w' := by
 obtain ⟨a, c, rfl, hi⟩ := h
 exact (szR a xs.length c left hn hl0 hl1 w).mono fun _ _ ⟨r, h1, h2, h3, h4, h5⟩ => ⟨⟨r, h1, h2, h3, h4⟩, h5 ▸ Below.refl _ _⟩
theorem toRats_k {w : World} {v : Value} {xs : List R} (h : InRats w v xs) (hf : xs.length ≤ 1048576) :
  Calls Try.prog 42 #[v] w fun e w' => (∃ v', e = .returned v' ∧ RsRats w.heap.size w'.heap.size w' v' xs) ∧ Below w.heap.size w w' := by
 obtain ⟨a, c, rfl, hi⟩ := h
 exact (laws_toRatS w.heap.size a c xs hf w (Nat.le_refl _) hi).mono fun e w' ⟨v, he, ho, hb⟩ => ⟨⟨v, he, rats_new ho⟩, hb⟩
theorem eqRats_k {w : World} {v v' : Value} {xs : List R} (h : InRats w v xs) (h' : InRats w v' xs) (hf : xs.length ≤ 1048576) :
  Calls Try.prog 32 #[v, v'] w fun e w' => e = .returned (.bool true) ∧ Below w.heap.size w w' := by
 obtain ⟨a, c, rfl, hi⟩ := h
 obtain ⟨a', c', rfl, hi'⟩ := h'
 exact laws_eqRatS w.heap.size a a' c c' xs (by omega) w (Nat.le_refl _) hi hi'
theorem markRats_k {lo hi : Nat} {w : World} {v : Value} {xs : List R} (h : RsRats lo hi w v xs) (hf : xs.length ≤ 1048576) (kk : Int) (h0 : 0 ≤ kk) (h1 : kk ≤ 8388608) :
  Calls Try.prog 35 #[v, .int .i64 kk] w fun e w' => e = .returned (.int .i64 (kk + 2 * xs.length)) ∧ RsRats lo hi w' v (marksR kk.toNat xs.length) ∧ Turned lo hi w w' := by
 refine (mark_row lo hi v kk kk.toNat (by omega) xs (by omega) (by omega) w h.1).mono ?_
 rintro e w' ⟨rfl, h3, row, h4, h5⟩
 exact ⟨rfl, ⟨h3, Nat.le_trans h.2 h4.size⟩, Turned.of_grown h4 fun g hg => by have := h.1.blk (h5 g hg); omega⟩
theorem heldRats_k {w : World} {v : Value} {n : Nat} (kk : Int) (h : InRats w v (marksR kk.toNat n)) (hf : n ≤ 1048576) (h0 : 0 ≤ kk) (h1 : kk ≤ 8388608) :
  Calls Try.prog 38 #[v, .int .i64 kk] w fun e w' => e = .returned (.int .i64 (kk + 2 * n)) ∧ Below w.heap.size w w' := by
 obtain ⟨a, c, rfl, hi⟩ := h
 rw [marksR_len]
 exact (laws_heldFrom w.heap.size a c kk kk.toNat n (by omega) (by omega) (by omega) w hi).mono fun e w' ⟨h1, h2⟩ => ⟨h1, h2 ▸ Below.refl _ _⟩
end Go.Proofs.Ytpjnjidbdpfdcaa
