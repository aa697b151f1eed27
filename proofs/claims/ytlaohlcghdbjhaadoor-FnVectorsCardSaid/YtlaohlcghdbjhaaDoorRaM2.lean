/- How the operations on fractions hang together: sums and products can be undone, the order agrees with differences. -/
import Derived.Test.YtlaohlcghdbjhaaDoorRaM
namespace Go.Proofs.YtlaohlcghdbjhaaDoor.Ra

theorem op_true {k : Bool} {x y : Int} (h : opK k x y = true) : k = true ∧ fits x y = true ∧ opN k x y = rn x y ∧ opD k x y = rd x y := by
  unfold opK at h
  rw [Bool.and_eq_true] at h
  exact ⟨h.1, h.2, by unfold opN; rw [if_pos h.1], by unfold opD; rw [if_pos h.1]⟩
theorem same_pair {a b c d : Int} (h : a = c ∧ b = d) : (a == c && b == d) = true := by rw [h.1, h.2]; simp
theorem field_add (an ad bn bd : Int) (h1 : opK (two an ad bn bd) (an * bd + bn * ad) (ad * bd) = true)
    (h2 : opK (two (opN (two an ad bn bd) (an * bd + bn * ad) (ad * bd)) (opD (two an ad bn bd) (an * bd + bn * ad) (ad * bd)) bn bd)
      (opN (two an ad bn bd) (an * bd + bn * ad) (ad * bd) * bd - bn * opD (two an ad bn bd) (an * bd + bn * ad) (ad * bd)) (opD (two an ad bn bd) (an * bd + bn * ad) (ad * bd) * bd) = true) :
    (opN (two (opN (two an ad bn bd) (an * bd + bn * ad) (ad * bd)) (opD (two an ad bn bd) (an * bd + bn * ad) (ad * bd)) bn bd)
      (opN (two an ad bn bd) (an * bd + bn * ad) (ad * bd) * bd - bn * opD (two an ad bn bd) (an * bd + bn * ad) (ad * bd)) (opD (two an ad bn bd) (an * bd + bn * ad) (ad * bd) * bd) == an &&
     opD (two (opN (two an ad bn bd) (an * bd + bn * ad) (ad * bd)) (opD (two an ad bn bd) (an * bd + bn * ad) (ad * bd)) bn bd)
      (opN (two an ad bn bd) (an * bd + bn * ad) (ad * bd) * bd - bn * opD (two an ad bn bd) (an * bd + bn * ad) (ad * bd)) (opD (two an ad bn bd) (an * bd + bn * ad) (ad * bd) * bd) == ad) = true := by
  obtain ⟨k1, f1, e1, e2⟩ := op_true h1
  rw [e1, e2] at h2 ⊢
  obtain ⟨k2, f2, e3, e4⟩ := op_true h2
  rw [e3, e4]
  have c1 := cross f1
  have c2 := cross f2
  have va := (two_yes k1).1
  have vb := (two_yes k1).2
  have vs := vld_yes (fits_vld f1)
  have vb' := vld_yes vb
  have hx := back_add c1 c2 (by omega) (by omega)
  exact same_pair (canon (fits_vld f2) va hx)
theorem field_mul (an ad bn bd : Int) (h1 : opK (two an ad bn bd) (an * bn) (ad * bd) = true)
    (h2 : opK (two (opN (two an ad bn bd) (an * bn) (ad * bd)) (opD (two an ad bn bd) (an * bn) (ad * bd)) bn bd)
      (opN (two an ad bn bd) (an * bn) (ad * bd) * bd) (opD (two an ad bn bd) (an * bn) (ad * bd) * bn) = true) :
    (opN (two (opN (two an ad bn bd) (an * bn) (ad * bd)) (opD (two an ad bn bd) (an * bn) (ad * bd)) bn bd)
      (opN (two an ad bn bd) (an * bn) (ad * bd) * bd) (opD (two an ad bn bd) (an * bn) (ad * bd) * bn) == an &&
     opD (two (opN (two an ad bn bd) (an * bn) (ad * bd)) (opD (two an ad bn bd) (an * bn) (ad * bd)) bn bd)
      (opN (two an ad bn bd) (an * bn) (ad * bd) * bd) (opD (two an ad bn bd) (an * bn) (ad * bd) * bn) == ad) = true := by
  obtain ⟨k1, f1, e1, e2⟩ := op_true h1
  rw [e1, e2] at h2 ⊢
  obtain ⟨k2, f2, e3, e4⟩ := op_true h2
  rw [e3, e4]
  have c1 := cross f1
  have c2 := cross f2
  have va := (two_yes k1).1
  have vb' := vld_yes (two_yes k1).2
  have vp := vld_yes (fits_vld f1)
  have hne : rd (an * bn) (ad * bd) * bn ≠ 0 := by
    intro h0
    have := f2
    unfold fits at this
    rw [h0] at this
    simp at this
  have hbn : bn ≠ 0 := fun h => hne (by rw [h, Int.mul_zero])
  have hx := back_mul c1 c2 (by omega) hbn (by omega)
  exact same_pair (canon (fits_vld f2) va hx)
theorem field_cmp (an ad bn bd : Int) (h : opK (two an ad bn bd) (an * bd - bn * ad) (ad * bd) = true) :
    decide (0 < opN (two an ad bn bd) (an * bd - bn * ad) (ad * bd)) = decide (0 < cmp an ad bn bd) := by
  obtain ⟨k1, f1, e1, e2⟩ := op_true h
  rw [e1]
  have va := vld_yes (two_yes k1).1
  have vb := vld_yes (two_yes k1).2
  rw [sign_pos f1 (Int.mul_pos (by omega) (by omega))]
  rcases Int.lt_trichotomy (an * bd) (bn * ad) with h1 | h1 | h1
  · rw [cmp_lt k1 h1, decide_eq_decide]; omega
  · rw [cmp_eq h1, decide_eq_decide]; omega
  · rw [cmp_gt k1 h1, decide_eq_decide]; omega
end Go.Proofs.YtlaohlcghdbjhaaDoor.Ra
