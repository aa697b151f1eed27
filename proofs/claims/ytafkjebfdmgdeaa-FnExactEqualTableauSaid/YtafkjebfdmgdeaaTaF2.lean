/- The walk of FnExactEqualTableau. -/
import Derived.Test.YtafkjebfdmgdeaaTaF1
import Derived.Test.YtafkjebfdmgdeaaTaE2
namespace Go.Proofs.Ytafkjebfdmgdeaa
open Go.RowKit
open Ve (R)
open Ta (T)
theorem spec_EqualTableau_c : TabTabC 56 Ta.same := fun w _ _ _ _ _ _ s t fs ft hs ht => by
  obtain ⟨a, b, c1, c2, rfl, rfl, rfl, hi⟩ := hs
  obtain ⟨a', b', d1, d2, rfl, rfl, rfl, hi'⟩ := ht
  exact spec_EqualTableau w.heap.size a b a' b' c1 c2 d1 d2 s t fs ft _ rfl w (Nat.le_refl _) hi hi'
theorem impl_EqualTableau_c : TabTabC 31 Ta.same := fun w _ _ _ _ _ _ s t fs ft hs ht => by
  obtain ⟨a, b, c1, c2, rfl, rfl, rfl, hi⟩ := hs
  obtain ⟨a', b', d1, d2, rfl, rfl, rfl, hi'⟩ := ht
  exact impl_EqualTableau w.heap.size a b a' b' c1 c2 d1 d2 s t fs ft _ rfl w (Nat.le_refl _) hi hi'
theorem fnExactEqualTableau.walk (a b : Option Addr) (c1 c2 : Nat) (s : T) (a' b' : Option Addr) (d1 d2 : Nat) (t : T) (w : World) (n0 : TabLens s) (h0 : TabIn w.heap.size w a b s) (w0 : (Lit.int .i64 s.cols).wf = true) (n1 : TabLens t) (h1 : TabIn w.heap.size w a' b' t) (w1 : (Lit.int .i64 t.cols).wf = true) :
    Calls Try.prog 10 #[tabV a b c1 c2 s, tabV a' b' d1 d2 t] w fun e w' => e = .returned (.bool true) ∧ Below w.heap.size w w' :=
  fnExactEqualTableau.walk_c Ta.same spec_EqualTableau_c impl_EqualTableau_c w _ _ _ _ _ _ s t ⟨n0, w0⟩ ⟨n1, w1⟩ ⟨a, b, c1, c2, rfl, rfl, rfl, h0⟩ ⟨a', b', d1, d2, rfl, rfl, rfl, h1⟩
end Go.Proofs.Ytafkjebfdmgdeaa
