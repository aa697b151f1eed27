/- A slice of ints that came in, in closed words. -/
import Derived.Test.YtccgebnbpfliiaaNumOpen
import Derived.Test.YtccgebnbpfliiaaLkInts
namespace Go.Proofs.Ytccgebnbpfliiaa
open Go.RowKit Go.Deep Go.ChangeShapes Go.WideShapes
theorem nums_open {H : Type} {enc : TypeId × Value → H} {W : World} {base : Nat} {v : Value} {d : DataW H} {ps : List MemPlace} (hv : Value.okWide Try.prog W .any base 24 v)
    (h : DataW.Trod enc Try.prog W 0 (fun _ => true) true 24 v d ps) : ∃ zs : List Int, zs.length ≤ 9223372036854775807 ∧ InInts W v zs := by
  obtain ⟨a, len, cap, rfl⟩ := okWide_slice Try.underlying24 hv
  obtain ⟨fuel, hf⟩ := h
  obtain ⟨a', c', zs, e, hl, hn⟩ := ints_open (by simpa [Value.cells] using hf)
  exact ⟨zs, hl, a', c', e, hn⟩
end Go.Proofs.Ytccgebnbpfliiaa
