/- A result about the core that came in. -/
import Derived.Test.YtjkofijchdibdaaLkCo
import Derived.Test.YtjkofijchdibdaaGLr
namespace Go.Proofs.Ytjkofijchdibdaa
open Go.RowKit Go.Deep Go.ChangeShapes Go.WideShapes
open Ve (R)
open Cr (Cor)
set_option maxRecDepth 100000 in
theorem cor_open {H : Type} {enc : TypeId × Value → H} {W : World} {base : Nat} {v : Value} {d : DataW H} {ps : List MemPlace} (hv : Value.okWide Try.prog W .any base 46 v)
  (h : DataW.Trod enc Try.prog W 0 (fun _ => true) true 46 v d ps) :
  ∃ (x y z : Value) (r : Cor), v = .agg #[x, y, z] ∧ CorLens r ∧ CorC W x y z r := by
 obtain ⟨v0, v1, v2, y0, y1, y2, n, rfl, _, _, h0, h1, h2⟩ := Joins.open_agg3 Try.underlying46 (by kernel_rfl) (by kernel_rfl) hv h
 obtain ⟨s, a0, _, _⟩ := DataW.trod_int Try.underlying3 h0
 obtain ⟨b, c1, l1, rfl, n1, m1⟩ := rats_open1 h1
 obtain ⟨c, c2, l2, rfl, n2, m2⟩ := rats_open1 h2
 simp only [List.cons.injEq, and_true] at a0
 subst a0
 exact ⟨_, _, _, ⟨s, l1, l2⟩, rfl, ⟨n1, n2⟩, rfl, ⟨b, c1, rfl, m1⟩, ⟨c, c2, rfl, m2⟩⟩
end Go.Proofs.Ytjkofijchdibdaa
