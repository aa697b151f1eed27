/- Slices of ints that are read; laws.toIntS: a list of ints copied. -/
import Derived.Test.YtpidlmmpejoeaaaGreatGB
import Derived.Test.YtpidlmmpejoeaaaGreatIntsLaw
import Derived.Test.YtpidlmmpejoeaaaGreatRow
import Derived.Laws.AppendOwn
namespace Go.Proofs.YtpidlmmpejoeaaaGreat
open Go.RowKit
theorem ints_same {L M : List Int} (hl : L.length = M.length) (h : ∀ j, j < L.length → L.getD j 0 = M.getD j 0) : L = M := by
 apply List.ext_getElem? fun j => ?_
 rcases Nat.lt_or_ge j L.length with h1 | h1
 ·
  have e1 : L[j]? = some (L.getD j 0) := by rw [List.getD_eq_getElem?_getD, List.getElem?_eq_getElem h1]; rfl
  have e2 : M[j]? = some (M.getD j 0) := by rw [List.getD_eq_getElem?_getD, List.getElem?_eq_getElem (by omega)]; rfl
  rw [e1, e2, h j h1]
 ·
  rw [List.getElem?_eq_none h1, List.getElem?_eq_none (by omega)]
def NumsIn (B : Nat) (w : World) (a : Option Addr) (zs : List Int) : Prop := ∀ j, j < zs.length → ∃ b o : Nat, a = some ⟨b, o, none⟩ ∧ b < B ∧ w.cell? ⟨b, o + j, none⟩ = some (.int .i64 (zs.getD j 0))
theorem NumsIn.below {B : Nat} {w w' : World} {a : Option Addr} {zs : List Int} (h : NumsIn B w a zs) (hb : Below B w w') : NumsIn B w' a zs := fun j hj => by
 obtain ⟨b, o, h1, h2, h3⟩ := h j hj
 exact ⟨b, o, h1, h2, by rw [hb.cell (p := ⟨b, o + j, none⟩) h2]; exact h3⟩
theorem NumsIn.mono {B B' : Nat} {w : World} {a : Option Addr} {zs : List Int} (h : NumsIn B w a zs) (hB : B ≤ B') : NumsIn B' w a zs := fun j hj => by
 obtain ⟨b, o, h1, h2, h3⟩ := h j hj
 exact ⟨b, o, h1, by omega, h3⟩
theorem NumsIn.of_ints {B : Nat} {w : World} {a : Option Addr} {zs : List Int} (h : IntsIn w a zs) (ha : ∀ p, a = some p → p.block < B) : NumsIn B w a zs := fun j hj => by
 obtain ⟨b, o, h1, h2⟩ := h j _ (List.getElem?_eq_getElem hj)
 refine ⟨b, o, h1, ha ⟨b, o, none⟩ h1, ?_⟩
 rw [List.getD_eq_getElem?_getD, List.getElem?_eq_getElem hj]
 exact h2
theorem NumsIn.of_at {B : Nat} {w : World} {a : Option Addr} {len : Nat} {zs : List Int} (h : IntsAt .i64 B w a len zs) : NumsIn B w a zs := fun j hj => by
 obtain ⟨_, hl, hc⟩ := h
 obtain ⟨b, o, h1, h2, h3, _⟩ := hc j (by omega)
 exact ⟨b, o, h1, h2, h3⟩
theorem NumsIn.grown {B : Nat} {w w' : World} {row : Option Nat} {a : Option Addr} {zs : List Int} (h : NumsIn B w a zs) (hg : w.grownBy w' row) (hB : B ≤ w.heap.size) (hr : ∀ g, row = some g → B ≤ g) : NumsIn B w' a zs := fun j hj => by
 obtain ⟨b, o, h1, h2, h3⟩ := h j hj
 exact ⟨b, o, h1, h2, by rw [World.cell?_of_block (w := w) (a := ⟨b, o + j, none⟩) (hg.block b (by omega) (fun e => by have := hr b e.symm; omega))]; exact h3⟩
theorem NumsIn.ints {B : Nat} {w : World} {a : Option Addr} {zs : List Int} (h : NumsIn B w a zs) : IntsIn w a zs := fun j x hx => by
 have hj : j < zs.length := (List.getElem?_eq_some_iff.1 hx).1
 obtain ⟨b, o, h1, _, h3⟩ := h j hj
 refine ⟨b, o, h1, ?_⟩
 rw [h3, List.getD_eq_getElem?_getD, hx]; rfl
theorem OwnInts.grown {lo : Nat} {w w' : World} {v : Value} {xs : List Int} {row : Option Nat} (h : OwnInts lo w v xs) (hg : w.grownBy w' row) (hne : ∀ g, v.ownBlock = some g → row ≠ some g) : OwnInts lo w' v xs :=
 World.ownsRow.kept h hg (by
  cases hv : v.ownBlock with
  | none => exact .inl rfl
  | some g => exact .inr (fun e => hne g hv e.symm))
theorem NumsIn.same {n : Nat} {w w' : World} {a : Option Addr} {L : List Int} (h : NumsIn n w a L) (hk : ∀ k, k < n → w'.heap[k]? = w.heap[k]?) : NumsIn n w' a L := fun j hj => by
 obtain ⟨b, o, e1, h2, h3⟩ := h j hj
 exact ⟨b, o, e1, h2, by rw [World.cell?_of_block (w := w) (a := ⟨b, o + j, none⟩) (hk b h2)]; exact h3⟩
theorem NumsIn.drewN {B : Nat} {w : World} {a : Option Addr} {zs : List Int} (h : NumsIn B w a zs) (d : Nat) : NumsIn B (w.drewN d) a zs := h
def CopiedI (B g n k : Nat) (wr : World) (xs : List Int) : Prop :=
 ∃ L : List Value, wr.ownsRow B 3 1 (.slice (some ⟨g, 0, none⟩) n n) n L ∧ ∀ j, j < k → L[j]? = some (.int .i64 (xs.getD j 0))
theorem copiedI_next {B g n k : Nat} {wr : World} {xs : List Int} (h : CopiedI B g n k wr xs) (hk : k < n) : CopiedI B g n (k + 1) (wr.setCell ⟨g, k, none⟩ (.int .i64 (xs.getD k 0))) xs := by
 obtain ⟨L, h1, h2⟩ := h
 have hl : L.length = n := by have := h1.1; omega
 refine ⟨L.set k (.int .i64 (xs.getD k 0)), (h1.stored k _).1, fun j hj => ?_⟩
 by_cases e : j = k
 ·
  subst e
  rw [List.getElem?_set_self (by omega)]
 ·
  rw [List.getElem?_set_ne (fun h => e h.symm)]
  exact h2 j (by omega)
end Go.Proofs.YtpidlmmpejoeaaaGreat
