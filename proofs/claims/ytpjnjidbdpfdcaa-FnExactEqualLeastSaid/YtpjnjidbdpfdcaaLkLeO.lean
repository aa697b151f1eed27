/- A result about the least core that came in. -/
import Derived.Test.YtpjnjidbdpfdcaaLkLe
import Derived.Test.YtpjnjidbdpfdcaaGLr
import Derived.Test.YtpjnjidbdpfdcaaGLr
namespace Go.Proofs.Ytpjnjidbdpfdcaa
open Go.RowKit Go.Deep Go.ChangeShapes Go.WideShapes Go.ChangeAt
open Ve (R)
open Le (Lst)
theorem array5 {α : Type} {cs : Array α} (h : cs.size = 5) : ∃ c0 c1 c2 c3 c4, cs = #[c0, c1, c2, c3, c4] := by
 obtain ⟨l⟩ := cs
 match l, h with
 | [c0, c1, c2, c3, c4], _ => exact ⟨c0, c1, c2, c3, c4, rfl⟩
set_option maxRecDepth 100000 in
set_option maxHeartbeats 1000000 in
theorem lst_open {H : Type} {enc : TypeId × Value → H} {W : World} {base : Nat} {v : Value} {d : DataW H} {ps : List MemPlace} (hv : Value.okWide Try.prog W .any base 43 v)
  (h : DataW.Trod enc Try.prog W 0 (fun _ => true) true 43 v d ps) :
  ∃ (x n e y z : Value) (r : Lst), v = .agg #[x, n, e, y, z] ∧ LstLens r ∧ LstC W x n e y z r := by
 obtain ⟨cs, rfl, hsz⟩ := okWide_struct Try.underlying43 hv
 obtain ⟨c0, c1, c2, c3, c4, rfl⟩ := array5 (hsz.trans (by kernel_rfl))
 obtain ⟨fuel, hf⟩ := h
 obtain ⟨xs, n, _, _, hl, hlen, hg⟩ := DataW.trod_struct Try.underlying43 hf
 match xs, hlen with
 | [y0, y1, y2, y3], _ =>
  have g0 := hg 0 _ rfl
  have g1 := hg 1 _ rfl
  have g2 := hg 2 _ rfl
  have g3 := hg 3 _ rfl
  have kb : Try.prog.cellsOf 4 = 1 := by kernel_rfl
  have ki : Try.prog.cellsOf 3 = 1 := by kernel_rfl
  have ks : Try.prog.cellsOf 41 = 1 := by kernel_rfl
  have kr : Try.prog.cellsOf 40 = 2 := by kernel_rfl
  have e0 : DataW.trod enc Try.prog W 0 (fun _ => true) true n 4 [c0] = some y0 := by simpa [Value.cells, kb] using g0
  have e1 : DataW.trod enc Try.prog W 0 (fun _ => true) true n 40 [c1, c2] = some y1 := by simpa [Value.cells, kr] using g1
  have e2 : DataW.trod enc Try.prog W 0 (fun _ => true) true n 41 [c3] = some y2 := by simpa [Value.cells, ks] using g2
  have e3 : DataW.trod enc Try.prog W 0 (fun _ => true) true n 41 [c4] = some y3 := by simpa [Value.cells, ks] using g3
  clear g0 g1 g2 g3 hg hf hl hlen hsz hv
  obtain ⟨s, a0, _⟩ := DataW.trod_bool Try.underlying4 e0
  obtain ⟨z0, z1, m, _, _, q0, q1⟩ := trod_struct2 Try.underlying40 e1
  have f0 : DataW.trod enc Try.prog W 0 (fun _ => true) true m 3 [c1] = some z0 := by simpa [Value.cells, ki] using q0
  have f1 : DataW.trod enc Try.prog W 0 (fun _ => true) true m 3 [c2] = some z1 := by simpa [Value.cells, ki] using q1
  obtain ⟨nu, b4, _, _⟩ := DataW.trod_int Try.underlying3 f0
  obtain ⟨de, b5, _, _⟩ := DataW.trod_int Try.underlying3 f1
  simp only [List.cons.injEq, and_true] at a0 b4 b5
  subst a0 b4 b5
  obtain ⟨a, k1, X, rfl, l1, m1⟩ := rats_open1 e2
  obtain ⟨b, k2, Y, rfl, l2, m2⟩ := rats_open1 e3
  exact ⟨_, _, _, _, _, ⟨s, (nu, de), X, Y⟩, rfl, ⟨l1, l2⟩, rfl, rfl, rfl, ⟨a, k1, rfl, m1⟩, ⟨b, k2, rfl, m2⟩⟩
end Go.Proofs.Ytpjnjidbdpfdcaa
