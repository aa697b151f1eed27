/- CoreName on both sides, and its exact law's walk. -/
import Derived.Test.YtjkofijchdibdaaCoA
import Derived.Test.YtjkofijchdibdaaWiB
import Derived.Test.YtjkofijchdibdaaGB
namespace Go.Proofs.Ytjkofijchdibdaa
open Go.RowKit
theorem spec_name (i : Int) (hi : 0 ≤ i ∧ i ≤ 3) (s : ByteArray) (hs : s = if i = 0 then ⟨#[98, 97, 100]⟩ else if i = 1 then ⟨#[112, 111, 105, 110, 116]⟩ else if i = 2 then ⟨#[101, 109, 112, 116, 121]⟩ else ⟨#[108, 105, 109, 105, 116]⟩) (w : World) :
  Calls Try.prog 26 #[.int .i64 i] w fun e w' => e = .returned (.string s) ∧ Below w.heap.size w w' := by
 have h : i = 0 ∨ i = 1 ∨ i = 2 ∨ i = 3 := by omega
 rcases h with rfl | rfl | rfl | rfl
 ·
  have hs2 : s = ⟨#[98, 97, 100]⟩ := hs
  subst hs2
  clear hi hs
  go_enter Try.func26, Try.ntmps26
  go_wp2_with fail
  refine (spec_l1In 0 0 3 true rfl _).mono ?_
  rintro e w1 ⟨rfl, rfl⟩
  go_wp2_with fail
  go_ret
  exact ⟨rfl, (Below.refl _ _).alloc (Nat.le_refl _) _⟩
 ·
  have hs2 : s = ⟨#[112, 111, 105, 110, 116]⟩ := hs
  subst hs2
  clear hi hs
  go_enter Try.func26, Try.ntmps26
  go_wp2_with fail
  refine (spec_l1In 1 0 3 true rfl _).mono ?_
  rintro e w1 ⟨rfl, rfl⟩
  go_wp2_with fail
  go_ret
  exact ⟨rfl, (Below.refl _ _).alloc (Nat.le_refl _) _⟩
 ·
  have hs2 : s = ⟨#[101, 109, 112, 116, 121]⟩ := hs
  subst hs2
  clear hi hs
  go_enter Try.func26, Try.ntmps26
  go_wp2_with fail
  refine (spec_l1In 2 0 3 true rfl _).mono ?_
  rintro e w1 ⟨rfl, rfl⟩
  go_wp2_with fail
  go_ret
  exact ⟨rfl, (Below.refl _ _).alloc (Nat.le_refl _) _⟩
 ·
  have hs2 : s = ⟨#[108, 105, 109, 105, 116]⟩ := hs
  subst hs2
  clear hi hs
  go_enter Try.func26, Try.ntmps26
  go_wp2_with fail
  refine (spec_l1In 3 0 3 true rfl _).mono ?_
  rintro e w1 ⟨rfl, rfl⟩
  go_wp2_with fail
  go_ret
  exact ⟨rfl, (Below.refl _ _).alloc (Nat.le_refl _) _⟩
theorem spec_name_out (i : Int) (hi : ¬ (0 ≤ i ∧ i ≤ 3)) (w : World) : Calls Try.prog 26 #[.int .i64 i] w fun e w' => e = .returned (.string ⟨#[63]⟩) ∧ Below w.heap.size w w' := by
 have Hd := zH (show decide (0 ≤ i ∧ i ≤ 3) = false by rw [decide_eq_false_iff_not]; exact hi)
 clear hi
 go_enter Try.func26, Try.ntmps26
 go_wp2_with fail
 refine (spec_l1In i 0 3 false Hd.out _).mono ?_
 rintro e w1 ⟨rfl, rfl⟩
 go_wp2_with fail
 go_ret
 exact ⟨rfl, Below.refl _ _⟩
theorem impl_name (i : Int) (s : ByteArray) (hs : s = if i = 0 then ⟨#[98, 97, 100]⟩ else if i = 1 then ⟨#[112, 111, 105, 110, 116]⟩ else if i = 2 then ⟨#[101, 109, 112, 116, 121]⟩ else if i = 3 then ⟨#[108, 105, 109, 105, 116]⟩ else ⟨#[63]⟩) (w : World) :
  Calls Try.prog 27 #[.int .i64 i] w fun e w' => e = .returned (.string s) ∧ Below w.heap.size w w' := by
 by_cases h0 : i = 0
 ·
  rw [if_pos h0] at hs
  subst h0 hs
  go_enter Try.func27, Try.ntmps27
  go_wp2_with fail
  go_ret
  exact ⟨rfl, Below.refl _ _⟩
 rw [if_neg h0] at hs
 have b0 : (i == 0) = false := by rw [beq_eq_false_iff_ne]; exact h0
 by_cases h1 : i = 1
 ·
  rw [if_pos h1] at hs
  subst h1 hs
  clear h0 b0
  go_enter Try.func27, Try.ntmps27
  go_wp2_with fail
  go_ret
  exact ⟨rfl, Below.refl _ _⟩
 rw [if_neg h1] at hs
 have b1 : (i == 1) = false := by rw [beq_eq_false_iff_ne]; exact h1
 by_cases h2 : i = 2
 ·
  rw [if_pos h2] at hs
  subst h2 hs
  clear h0 h1 b0 b1
  go_enter Try.func27, Try.ntmps27
  go_wp2_with fail
  go_ret
  exact ⟨rfl, Below.refl _ _⟩
 rw [if_neg h2] at hs
 have b2 : (i == 2) = false := by rw [beq_eq_false_iff_ne]; exact h2
 by_cases h3 : i = 3
 ·
  rw [if_pos h3] at hs
  subst h3 hs
  clear h0 h1 h2 b0 b1 b2
  go_enter Try.func27, Try.ntmps27
  go_wp2_with fail
  go_ret
  exact ⟨rfl, Below.refl _ _⟩
 rw [if_neg h3] at hs
 have b3 : (i == 3) = false := by rw [beq_eq_false_iff_ne]; exact h3
 subst hs
 clear h0 h1 h2 h3
 go_enter Try.func27, Try.ntmps27
 go_wp2_with fail
 go_ret
 exact ⟨rfl, Below.refl _ _⟩
theorem both_name (i : Int) : ∃ s : ByteArray, (∀ w, Calls Try.prog 26 #[.int .i64 i] w fun e w' => e = .returned (.string s) ∧ Below w.heap.size w w') ∧ (∀ w, Calls Try.prog 27 #[.int .i64 i] w fun e w' => e = .returned (.string s) ∧ Below w.heap.size w w') := by
 by_cases h : 0 ≤ i ∧ i ≤ 3
 ·
  refine ⟨_, fun w => spec_name i h _ rfl w, fun w => impl_name i _ ?_ w⟩
  have h' : i = 0 ∨ i = 1 ∨ i = 2 ∨ i = 3 := by omega
  rcases h' with rfl | rfl | rfl | rfl <;> rfl
 ·
  refine ⟨_, fun w => spec_name_out i h w, fun w => impl_name i _ ?_ w⟩
  rw [if_neg (by omega), if_neg (by omega), if_neg (by omega), if_neg (by omega)]
theorem fnExactCoreName.walk (i : Int) (_ : (Lit.int .i64 i).wf = true) (w : World) : Calls Try.prog 6 #[.int .i64 i] w fun e w' => e = .returned (.bool true) ∧ Below w.heap.size w w' := by
 obtain ⟨s, hS, hI⟩ := both_name i
 have HS := zH hS
 have HI := zH hI
 have hne : (s.toList == s.toList) = true := by simp
 clear hS hI
 go_enter Try.func6, Try.ntmps6
 go_wp2_with fail
 refine (HS.out _).mono ?_
 rintro e w1 ⟨rfl, hb1⟩
 have HB := zH hb1
 clear hb1
 go_wp2_with fail
 refine (HI.out _).mono ?_
 rintro e w2 ⟨rfl, hb2⟩
 replace HB := zH (HB.out.trans (hb2.mono HB.out.size))
 clear hb2
 go_wp2_with fail
 go_ret
 exact ⟨rfl, HB.out⟩
end Go.Proofs.Ytjkofijchdibdaa
