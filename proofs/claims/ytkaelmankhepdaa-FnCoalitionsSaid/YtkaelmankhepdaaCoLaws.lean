/- The walks of the laws of CountCoalitions, HasPlayer, SizeOf, IsSubset, Union, Overlap: for every input the law returns true. -/
import Derived.Test.YtkaelmankhepdaaCoB
import Derived.Below
namespace Go.Proofs.Ytkaelmankhepdaa
open Go.RowKit

theorem i64_bd {n : Int} (h : (Lit.int .i64 n).wf = true) : -9223372036854775808 ≤ n ∧ n ≤ 9223372036854775807 := by
  have e1 : IntKind.i64.min = -9223372036854775808 := rfl
  have e2 : IntKind.i64.max = 9223372036854775807 := rfl
  simp [Lit.wf, e1, e2] at h
  exact h

theorem both_Count (n : Int) (h0 : -9223372036854775808 ≤ n) (h1 : n ≤ 9223372036854775807) : ∃ r : Int, (∀ w, Calls Try.prog 37 #[.int .i64 n] w fun e w' => e = .returned (.int .i64 r) ∧ w = w') ∧ (∀ w, Calls Try.prog 36 #[.int .i64 n] w fun e w' => e = .returned (.int .i64 r) ∧ w = w') := by
  by_cases h : n < 0 ∨ 5 < n
  · exact ⟨0, spec_CountCoalitions_out n h, impl_CountCoalitions_out n h h0 h1⟩
  · obtain ⟨k, rfl⟩ := Int.eq_ofNat_of_zero_le (show 0 ≤ n by omega)
    exact ⟨_, spec_CountCoalitions k (by omega), impl_CountCoalitions k (by omega)⟩
theorem both_HasPlayer (s k : Int) (hs : s ≤ 9223372036854775807) : ∃ r : Bool, (∀ w, Calls Try.prog 35 #[.int .i64 s, .int .i64 k] w fun e w' => e = .returned (.bool r) ∧ w = w') ∧ (∀ w, Calls Try.prog 34 #[.int .i64 s, .int .i64 k] w fun e w' => e = .returned (.bool r) ∧ w = w') := by
  by_cases h : k < 0 ∨ 4 < k
  · exact ⟨false, spec_HasPlayer_out s k h, impl_HasPlayer_out s k h⟩
  · obtain ⟨j, rfl⟩ := Int.eq_ofNat_of_zero_le (show 0 ≤ k by omega)
    exact ⟨Co.has s j, spec_HasPlayer s hs j (by omega) _ rfl, impl_HasPlayer s j (by omega) _ rfl⟩
theorem both_SizeOf (s : Int) (hs : s ≤ 9223372036854775807) : ∃ r : Int, (∀ w, Calls Try.prog 38 #[.int .i64 s] w fun e w' => e = .returned (.int .i64 r) ∧ w = w') ∧ (∀ w, Calls Try.prog 21 #[.int .i64 s] w fun e w' => e = .returned (.int .i64 r) ∧ w = w') :=
  ⟨Co.size s 5, spec_SizeOf s hs, impl_SizeOf s⟩
theorem not_both {a b : Int} (h : ¬ (Co.good a = true ∧ Co.good b = true)) : Co.good a = false ∨ Co.good b = false := by
  rcases ha : Co.good a with _ | _
  · exact .inl rfl
  · rcases hb : Co.good b with _ | _
    · exact .inr rfl
    · exact absurd ⟨ha, hb⟩ h
theorem both_IsSubset (a b : Int) (ha : a ≤ 9223372036854775807) (hb : b ≤ 9223372036854775807) : ∃ r : Bool, (∀ w, Calls Try.prog 20 #[.int .i64 a, .int .i64 b] w fun e w' => e = .returned (.bool r) ∧ w = w') ∧ (∀ w, Calls Try.prog 19 #[.int .i64 a, .int .i64 b] w fun e w' => e = .returned (.bool r) ∧ w = w') := by
  refine ⟨subR a b, spec_IsSubset a b ha hb, ?_⟩
  by_cases h : Co.good a = true ∧ Co.good b = true
  · exact impl_IsSubset a b h.1 h.2 _ (by unfold subR; rw [h.1, h.2]; rfl)
  · have e : subR a b = false := by unfold subR; rcases not_both h with h | h <;> rw [h] <;> simp
    rw [e]
    exact impl_IsSubset_bad a b (not_both h)
theorem both_Union (a b : Int) : ∃ r : Int, (∀ w, Calls Try.prog 17 #[.int .i64 a, .int .i64 b] w fun e w' => e = .returned (.int .i64 r) ∧ w = w') ∧ (∀ w, Calls Try.prog 15 #[.int .i64 a, .int .i64 b] w fun e w' => e = .returned (.int .i64 r) ∧ w = w') := by
  by_cases h : Co.good a = true ∧ Co.good b = true
  · exact ⟨_, spec_Union a b h.1 h.2, impl_Union a b h.1 h.2⟩
  · exact ⟨_, spec_Union_bad a b (not_both h), impl_Union_bad a b (not_both h)⟩
theorem both_Overlap (a b : Int) : ∃ r : Int, (∀ w, Calls Try.prog 18 #[.int .i64 a, .int .i64 b] w fun e w' => e = .returned (.int .i64 r) ∧ w = w') ∧ (∀ w, Calls Try.prog 16 #[.int .i64 a, .int .i64 b] w fun e w' => e = .returned (.int .i64 r) ∧ w = w') := by
  by_cases h : Co.good a = true ∧ Co.good b = true
  · exact ⟨_, spec_Overlap a b h.1 h.2, impl_Overlap a b h.1 h.2⟩
  · exact ⟨_, spec_Overlap_bad a b (not_both h), impl_Overlap_bad a b (not_both h)⟩

theorem fnExactCountCoalitions.walk (a0 : Int) (w0 : (Lit.int .i64 a0).wf = true) (w : World) :
    Calls Try.prog 4 #[.int .i64 a0] w fun e w' => e = .returned (.bool true) ∧ Below w.heap.size w w' := by
  obtain ⟨r, hS, hI⟩ := both_Count a0 (i64_bd w0).1 (i64_bd w0).2
  have HS := Lib.hid hS
  have HI := Lib.hid hI
  clear hS hI
  go_enter Try.func4, Try.ntmps4
  go_wp2_with fail
  refine (HS.out w).mono ?_
  rintro e w2 ⟨rfl, rfl⟩
  go_wp2_with fail
  refine (HI.out w).mono ?_
  rintro e w2 ⟨rfl, rfl⟩
  go_wp2_with fail
  go_ret
  exact ⟨rfl, Below.refl _ _⟩

theorem fnExactHasPlayer.walk (a0 : Int) (w0 : (Lit.int .i64 a0).wf = true) (a1 : Int) (_w1 : (Lit.int .i64 a1).wf = true) (w : World) :
    Calls Try.prog 5 #[.int .i64 a0, .int .i64 a1] w fun e w' => e = .returned (.bool true) ∧ Below w.heap.size w w' := by
  obtain ⟨r, hS, hI⟩ := both_HasPlayer a0 a1 (i64_bd w0).2
  have HS := Lib.hid hS
  have HI := Lib.hid hI
  clear hS hI
  go_enter Try.func5, Try.ntmps5
  go_wp2_with fail
  refine (HS.out w).mono ?_
  rintro e w2 ⟨rfl, rfl⟩
  go_wp2_with fail
  refine (HI.out w).mono ?_
  rintro e w2 ⟨rfl, rfl⟩
  go_wp2_with fail
  go_ret
  exact ⟨rfl, Below.refl _ _⟩

theorem fnExactSizeOf.walk (a0 : Int) (w0 : (Lit.int .i64 a0).wf = true) (w : World) :
    Calls Try.prog 6 #[.int .i64 a0] w fun e w' => e = .returned (.bool true) ∧ Below w.heap.size w w' := by
  obtain ⟨r, hS, hI⟩ := both_SizeOf a0 (i64_bd w0).2
  have HS := Lib.hid hS
  have HI := Lib.hid hI
  clear hS hI
  go_enter Try.func6, Try.ntmps6
  go_wp2_with fail
  refine (HS.out w).mono ?_
  rintro e w2 ⟨rfl, rfl⟩
  go_wp2_with fail
  refine (HI.out w).mono ?_
  rintro e w2 ⟨rfl, rfl⟩
  go_wp2_with fail
  go_ret
  exact ⟨rfl, Below.refl _ _⟩

theorem fnExactIsSubset.walk (a0 : Int) (w0 : (Lit.int .i64 a0).wf = true) (a1 : Int) (w1 : (Lit.int .i64 a1).wf = true) (w : World) :
    Calls Try.prog 7 #[.int .i64 a0, .int .i64 a1] w fun e w' => e = .returned (.bool true) ∧ Below w.heap.size w w' := by
  obtain ⟨r, hS, hI⟩ := both_IsSubset a0 a1 (i64_bd w0).2 (i64_bd w1).2
  have HS := Lib.hid hS
  have HI := Lib.hid hI
  clear hS hI
  go_enter Try.func7, Try.ntmps7
  go_wp2_with fail
  refine (HS.out w).mono ?_
  rintro e w2 ⟨rfl, rfl⟩
  go_wp2_with fail
  refine (HI.out w).mono ?_
  rintro e w2 ⟨rfl, rfl⟩
  go_wp2_with fail
  go_ret
  exact ⟨rfl, Below.refl _ _⟩

theorem fnExactUnion.walk (a0 : Int) (_w0 : (Lit.int .i64 a0).wf = true) (a1 : Int) (_w1 : (Lit.int .i64 a1).wf = true) (w : World) :
    Calls Try.prog 8 #[.int .i64 a0, .int .i64 a1] w fun e w' => e = .returned (.bool true) ∧ Below w.heap.size w w' := by
  obtain ⟨r, hS, hI⟩ := both_Union a0 a1
  have HS := Lib.hid hS
  have HI := Lib.hid hI
  clear hS hI
  go_enter Try.func8, Try.ntmps8
  go_wp2_with fail
  refine (HS.out w).mono ?_
  rintro e w2 ⟨rfl, rfl⟩
  go_wp2_with fail
  refine (HI.out w).mono ?_
  rintro e w2 ⟨rfl, rfl⟩
  go_wp2_with fail
  go_ret
  exact ⟨rfl, Below.refl _ _⟩

theorem fnExactOverlap.walk (a0 : Int) (_w0 : (Lit.int .i64 a0).wf = true) (a1 : Int) (_w1 : (Lit.int .i64 a1).wf = true) (w : World) :
    Calls Try.prog 9 #[.int .i64 a0, .int .i64 a1] w fun e w' => e = .returned (.bool true) ∧ Below w.heap.size w w' := by
  obtain ⟨r, hS, hI⟩ := both_Overlap a0 a1
  have HS := Lib.hid hS
  have HI := Lib.hid hI
  clear hS hI
  go_enter Try.func9, Try.ntmps9
  go_wp2_with fail
  refine (HS.out w).mono ?_
  rintro e w2 ⟨rfl, rfl⟩
  go_wp2_with fail
  refine (HI.out w).mono ?_
  rintro e w2 ⟨rfl, rfl⟩
  go_wp2_with fail
  go_ret
  exact ⟨rfl, Below.refl _ _⟩
end Go.Proofs.Ytkaelmankhepdaa
