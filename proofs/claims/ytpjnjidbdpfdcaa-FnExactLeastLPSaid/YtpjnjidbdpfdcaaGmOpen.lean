/- A game that came in, as the laws take it. -/
import Derived.Test.YtpjnjidbdpfdcaaGmA
import Derived.Test.YtpjnjidbdpfdcaaNumOpen
namespace Go.Proofs.Ytpjnjidbdpfdcaa
open Go.RowKit Go.Deep Go.ChangeShapes Go.WideShapes
open Gm (G)
set_option maxRecDepth 100000 in
theorem gm_open {H : Type} {enc : TypeId × Value → H} {W : World} {base : Nat} {v : Value} {d : DataW H} {ps : List MemPlace} (hv : Value.okWide Try.prog W .any base 24 v)
  (h : DataW.Trod enc Try.prog W 0 (fun _ => true) true 24 v d ps) :
  ∃ (x y : Value) (g : G), v = .agg #[x, y] ∧ GmLens g ∧ GmC W x y g := by
 obtain ⟨v0, v1, y0, y1, n, rfl, _, _, h0, h1⟩ := Joins.open_agg2 Try.underlying24 (by kernel_rfl) (by kernel_rfl) hv h
 obtain ⟨s, a0, _, ws⟩ := DataW.trod_int Try.underlying3 h0
 obtain ⟨b, c2, l, rfl, l3, m2⟩ := ints_open h1
 simp only [List.cons.injEq, and_true] at a0
 subst a0
 exact ⟨_, _, ⟨s, l⟩, rfl, ⟨l3, ws⟩, b, c2, rfl, rfl, m2⟩
end Go.Proofs.Ytpjnjidbdpfdcaa
