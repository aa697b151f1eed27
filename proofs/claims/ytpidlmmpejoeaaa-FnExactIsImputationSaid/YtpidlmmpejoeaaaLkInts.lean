/- A kind of arguments and results of exact laws: slices of ints. -/
import Derived.Test.YtpidlmmpejoeaaaGK
namespace Go.Proofs.Ytpidlmmpejoeaaa
open Go.RowKit
def InInts (w : World) (v : Value) (xs : List Int) : Prop := ∃ (a : Option Addr) (c : Nat), v = .slice a xs.length c ∧ NumsIn w.heap.size w a xs
theorem InInts.up {w w' : World} {v : Value} {xs : List Int} (h : InInts w v xs) (hb : Below w.heap.size w w') : InInts w' v xs := by
 obtain ⟨a, c, e, hi⟩ := h
 exact ⟨a, c, e, (hi.below hb).mono hb.size⟩
theorem InInts.rg {w : World} {v : Value} {xs : List Int} (h : InInts w v xs) : Rg (fun w' => InInts w' v xs) 0 w.heap.size w :=
 ⟨h, Nat.le_refl _, fun w' hs hk => by
  obtain ⟨a, c, e, hi⟩ := h
  exact ⟨a, c, e, NumsIn.mono (hi.same fun k h => hk k (Nat.zero_le _) h) hs⟩⟩
def RsInts (lo hi : Nat) (w : World) (v : Value) (xs : List Int) : Prop := RowAtI lo hi w v xs ∧ hi ≤ w.heap.size
theorem RsInts.rg {lo hi : Nat} {w : World} {v : Value} {xs : List Int} (h : RsInts lo hi w v xs) : Rg (fun w' => RsInts lo hi w' v xs) lo hi w :=
 ⟨h, h.2, fun w' hs hk => ⟨h.1.same fun b hb => by have := h.1.blk hb; exact hk b this.1 this.2.1, Nat.le_trans h.2 hs⟩⟩
theorem RsInts.reads {lo hi : Nat} {w : World} {v : Value} {xs : List Int} (h : RsInts lo hi w v xs) : InInts w v xs := by
 obtain ⟨a, c, e, hr⟩ := h.1.reads
 exact ⟨a, c, e, hr.mono h.2⟩
theorem ints_new {w w' : World} {v : Value} {xs : List Int} (ho : OwnInts w.heap.size w' v xs) : RsInts w.heap.size w'.heap.size w' v xs :=
 ⟨RowAtI.of_own ho fun g hg => (World.ownsRow.lt ho g hg).2, Nat.le_refl _⟩
theorem toInts_k {w : World} {v : Value} {xs : List Int} (h : InInts w v xs) (hf : xs.length ≤ 1048576) :
  Calls Try.prog 51 #[v] w fun e w' => (∃ v', e = .returned v' ∧ RsInts w.heap.size w'.heap.size w' v' xs) ∧ Below w.heap.size w w' := by
 obtain ⟨a, c, rfl, hi⟩ := h
 exact (laws_toIntS w.heap.size a c xs hf w (Nat.le_refl _) hi).mono fun e w' ⟨v, he, ho, hb⟩ => ⟨⟨v, he, ints_new ho⟩, hb⟩
theorem eqInts_k {w : World} {v v' : Value} {xs : List Int} (h : InInts w v xs) (h' : InInts w v' xs) (hf : xs.length ≤ 1048576) :
  Calls Try.prog 26 #[v, v'] w fun e w' => e = .returned (.bool true) ∧ Below w.heap.size w w' := by
 obtain ⟨a, c, rfl, hi⟩ := h
 obtain ⟨a', c', rfl, hi'⟩ := h'
 exact (laws_eqIntS a a' c c' xs (by omega) w hi.ints hi'.ints).mono fun e w' ⟨he, d, hd⟩ => ⟨he, hd ▸ below_drewN (Below.refl _ _) d⟩
theorem markInts_k {lo hi : Nat} {w : World} {v : Value} {xs : List Int} (h : RsInts lo hi w v xs) (hf : xs.length ≤ 1048576) (kk : Int) (h0 : 0 ≤ kk) (h1 : kk ≤ 8388608) :
  Calls Try.prog 29 #[v, .int .i64 kk] w fun e w' => e = .returned (.int .i64 (kk + xs.length)) ∧ RsInts lo hi w' v (marksI kk.toNat xs.length) ∧ Turned lo hi w w' := by
 refine (mark_rowI lo hi v kk kk.toNat (by omega) xs (by omega) (by omega) w h.1).mono ?_
 rintro e w' ⟨rfl, h3, row, h4, h5⟩
 exact ⟨rfl, ⟨h3, Nat.le_trans h.2 h4.size⟩, Turned.of_grown h4 fun g hg => by have := h.1.blk (h5 g hg); omega⟩
theorem heldInts_k {w : World} {v : Value} {n : Nat} (kk : Int) (h : InInts w v (marksI kk.toNat n)) (hf : n ≤ 1048576) (h0 : 0 ≤ kk) (h1 : kk ≤ 8388608) :
  Calls Try.prog 30 #[v, .int .i64 kk] w fun e w' => e = .returned (.int .i64 (kk + n)) ∧ Below w.heap.size w w' := by
 obtain ⟨a, c, rfl, hi⟩ := h
 obtain ⟨k, hk⟩ : ∃ k : Nat, kk.toNat = k := ⟨_, rfl⟩
 obtain rfl : kk = (k : Int) := by omega
 rw [marksI_len]
 exact (laws_heldIntS2 a c k n (by omega) (by omega) w hi.ints).mono fun e w' ⟨h1, h2⟩ => ⟨h1, h2 ▸ Below.refl _ _⟩
end Go.Proofs.Ytpidlmmpejoeaaa
