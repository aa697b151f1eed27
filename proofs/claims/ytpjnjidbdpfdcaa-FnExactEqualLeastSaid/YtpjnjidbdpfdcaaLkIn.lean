/- Slices that are read, below n: facts of these blocks. -/
import Derived.Test.YtpjnjidbdpfdcaaGK
import Derived.Test.YtpjnjidbdpfdcaaGLa
namespace Go.Proofs.Ytpjnjidbdpfdcaa
open Go.RowKit
open Ve (R)
theorem RatsIn.of_low {n : Nat} {w w' : World} {a : Option Addr} {xs : List R} (h : RatsIn n w a xs) (hk : ∀ k, k < n → w'.heap[k]? = w.heap[k]?) : RatsIn n w' a xs := fun j x hx => by
 obtain ⟨b, o, e1, h2, h3, h4⟩ := h j x hx
 have hc : ∀ i, w'.cell? ⟨b, i, none⟩ = w.cell? ⟨b, i, none⟩ := fun i => World.cell?_of_block (w := w) (a := ⟨b, i, none⟩) (hk b h2)
 exact ⟨b, o, e1, h2, by rw [hc]; exact h3, by rw [hc]; exact h4⟩
theorem MatIn.same {n : Nat} {w w' : World} {a : Option Addr} {L : List (List Int)} (h : MatIn n w a L) (hk : ∀ k, k < n → w'.heap[k]? = w.heap[k]?) : MatIn n w' a L := fun j hj => by
 obtain ⟨b, o, a', c', e1, h2, h3, h4⟩ := h j hj
 exact ⟨b, o, a', c', e1, h2, by rw [World.cell?_of_block (w := w) (a := ⟨b, o + j, none⟩) (hk b h2)]; exact h3, h4.same hk⟩
end Go.Proofs.Ytpjnjidbdpfdcaa
