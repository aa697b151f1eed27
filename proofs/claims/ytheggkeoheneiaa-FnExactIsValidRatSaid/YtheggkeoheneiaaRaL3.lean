/- The walks of the exact laws of IsValidRat, RatOf, CompareRat, FloorRat, IsInteger: for every input the law returns true. -/
import Derived.Test.YtheggkeoheneiaaRaL0
namespace Go.Proofs.Ytheggkeoheneiaa
open Go.RowKit

theorem fnExactIsValidRat.walk (n d : Int) (w : World) :
    Calls Try.prog 4 #[.agg #[.int .i64 n, .int .i64 d]] w fun e w' => e = .returned (.bool true) ∧ Below w.heap.size w w' := by
  obtain ⟨r, hS, hI⟩ : ∃ r, (∀ w, Calls Try.prog 26 #[.agg #[.int .i64 n, .int .i64 d]] w fun e w' => e = .returned (.bool r) ∧ Below w.heap.size w w') ∧ (∀ w, Calls Try.prog 25 #[.agg #[.int .i64 n, .int .i64 d]] w fun e w' => e = .returned (.bool r) ∧ Below w.heap.size w w') :=
    ⟨_, fun w => spec_IsValidRat n d _ rfl w, fun w => impl_IsValidRat n d _ rfl w⟩
  have HS := Lib.hid hS
  have HI := Lib.hid hI
  clear hS hI
  go_enter Try.func4, Try.ntmps4
  go_wp2_with fail
  refine (laws_toRat n d _).mono ?_
  rintro e w1 ⟨rfl, hb1⟩
  have Hb1 := Lib.hid hb1
  clear hb1
  go_wp2_with fail
  refine (HS.out _).mono ?_
  rintro e w2 ⟨rfl, hb2⟩
  have Hb2 := Lib.hid (Hb1.out.trans (hb2.mono Hb1.out.size))
  obtain ⟨a0, a1, hz⟩ := kept1 Hb2.out
  clear Hb1 hb2
  go_wp2_with fail
  refine (laws_toRat n d _).mono ?_
  rintro e w3 ⟨rfl, hb3⟩
  have Hb3 := Lib.hid (Hb2.out.trans (hb3.mono Hb2.out.size))
  clear Hb2 hb3 a0 a1 hz
  go_wp2_with fail
  refine (HI.out _).mono ?_
  rintro e w4 ⟨rfl, hb4⟩
  have Hb4 := Lib.hid (Hb3.out.trans (hb4.mono Hb3.out.size))
  clear Hb3 hb4
  go_wp2_with fail
  go_ret
  exact ⟨rfl, low1 Hb4.out⟩

theorem fnExactFloorRat.walk (n d : Int) (w : World) :
    Calls Try.prog 11 #[.agg #[.int .i64 n, .int .i64 d]] w fun e w' => e = .returned (.bool true) ∧ Below w.heap.size w w' := by
  obtain ⟨r, hS, hI⟩ : ∃ r, (∀ w, Calls Try.prog 32 #[.agg #[.int .i64 n, .int .i64 d]] w fun e w' => e = .returned (.int .i64 r) ∧ Below w.heap.size w w') ∧ (∀ w, Calls Try.prog 33 #[.agg #[.int .i64 n, .int .i64 d]] w fun e w' => e = .returned (.int .i64 r) ∧ Below w.heap.size w w') :=
    ⟨_, fun w => spec_FloorRat n d w, fun w => impl_FloorRat n d w⟩
  have HS := Lib.hid hS
  have HI := Lib.hid hI
  clear hS hI
  go_enter Try.func11, Try.ntmps11
  go_wp2_with fail
  refine (laws_toRat n d _).mono ?_
  rintro e w1 ⟨rfl, hb1⟩
  have Hb1 := Lib.hid hb1
  clear hb1
  go_wp2_with fail
  refine (HS.out _).mono ?_
  rintro e w2 ⟨rfl, hb2⟩
  have Hb2 := Lib.hid (Hb1.out.trans (hb2.mono Hb1.out.size))
  obtain ⟨a0, a1, hz⟩ := kept1 Hb2.out
  clear Hb1 hb2
  go_wp2_with fail
  refine (laws_toRat n d _).mono ?_
  rintro e w3 ⟨rfl, hb3⟩
  have Hb3 := Lib.hid (Hb2.out.trans (hb3.mono Hb2.out.size))
  clear Hb2 hb3 a0 a1 hz
  go_wp2_with fail
  refine (HI.out _).mono ?_
  rintro e w4 ⟨rfl, hb4⟩
  have Hb4 := Lib.hid (Hb3.out.trans (hb4.mono Hb3.out.size))
  clear Hb3 hb4
  go_wp2_with fail
  go_ret
  exact ⟨rfl, low1 Hb4.out⟩

theorem fnExactIsInteger.walk (n d : Int) (w : World) :
    Calls Try.prog 12 #[.agg #[.int .i64 n, .int .i64 d]] w fun e w' => e = .returned (.bool true) ∧ Below w.heap.size w w' := by
  obtain ⟨r, hS, hI⟩ : ∃ r, (∀ w, Calls Try.prog 34 #[.agg #[.int .i64 n, .int .i64 d]] w fun e w' => e = .returned (.bool r) ∧ Below w.heap.size w w') ∧ (∀ w, Calls Try.prog 35 #[.agg #[.int .i64 n, .int .i64 d]] w fun e w' => e = .returned (.bool r) ∧ Below w.heap.size w w') :=
    ⟨_, fun w => spec_IsInteger n d w, fun w => impl_IsInteger n d w⟩
  have HS := Lib.hid hS
  have HI := Lib.hid hI
  clear hS hI
  go_enter Try.func12, Try.ntmps12
  go_wp2_with fail
  refine (laws_toRat n d _).mono ?_
  rintro e w1 ⟨rfl, hb1⟩
  have Hb1 := Lib.hid hb1
  clear hb1
  go_wp2_with fail
  refine (HS.out _).mono ?_
  rintro e w2 ⟨rfl, hb2⟩
  have Hb2 := Lib.hid (Hb1.out.trans (hb2.mono Hb1.out.size))
  obtain ⟨a0, a1, hz⟩ := kept1 Hb2.out
  clear Hb1 hb2
  go_wp2_with fail
  refine (laws_toRat n d _).mono ?_
  rintro e w3 ⟨rfl, hb3⟩
  have Hb3 := Lib.hid (Hb2.out.trans (hb3.mono Hb2.out.size))
  clear Hb2 hb3 a0 a1 hz
  go_wp2_with fail
  refine (HI.out _).mono ?_
  rintro e w4 ⟨rfl, hb4⟩
  have Hb4 := Lib.hid (Hb3.out.trans (hb4.mono Hb3.out.size))
  clear Hb3 hb4
  go_wp2_with fail
  go_ret
  exact ⟨rfl, low1 Hb4.out⟩

theorem fnExactRatOf.walk (a0 : Int) (_w0 : (Lit.int .i64 a0).wf = true) (a1 : Int) (_w1 : (Lit.int .i64 a1).wf = true) (w : World) :
    Calls Try.prog 5 #[.int .i64 a0, .int .i64 a1] w fun e w' => e = .returned (.bool true) ∧ Below w.heap.size w w' := by
  obtain ⟨N, D, k, hS, hI⟩ : ∃ (N D : Int) (k : Bool), (∀ w, Calls Try.prog 24 #[.int .i64 a0, .int .i64 a1] w fun e w' => e = .returned (.tuple #[.agg #[.int .i64 N, .int .i64 D], .bool k]) ∧ Below w.heap.size w w') ∧ (∀ w, Calls Try.prog 23 #[.int .i64 a0, .int .i64 a1] w fun e w' => e = .returned (.tuple #[.agg #[.int .i64 N, .int .i64 D], .bool k]) ∧ Below w.heap.size w w') :=
    ⟨_, _, _, fun w => spec_RatOf a0 a1 w, fun w => impl_RatOf a0 a1 w⟩
  have HS := Lib.hid hS
  have HI := Lib.hid hI
  clear hS hI
  go_enter Try.func5, Try.ntmps5
  go_wp2_with fail
  refine (HS.out _).mono ?_
  rintro e w1 ⟨rfl, hb1⟩
  have Hb1 := Lib.hid hb1
  clear hb1
  go_wp2_with fail
  refine (HI.out _).mono ?_
  rintro e w2 ⟨rfl, hb2⟩
  obtain ⟨a0, a1, hz⟩ := kept1 hb2
  have Hb2 := Lib.hid ((Hb1.out.alloc Hb1.out.size _).trans (hb2.mono (by have := Hb1.out.size; rw [size1]; omega)))
  clear Hb1 hb2
  go_wp2_with fail
  refine (laws_eqRat N D _).mono ?_
  rintro e w3 ⟨rfl, hb3⟩
  have Hb3 := Lib.hid ((Hb2.out.alloc Hb2.out.size _).trans (hb3.mono (by have := Hb2.out.size; rw [size1]; omega)))
  clear Hb2 hb3
  go_wp2_with fail
  go_ret
  exact ⟨rfl, Hb3.out⟩

set_option maxHeartbeats 2000000 in
theorem fnExactCompareRat.walk (an ad bn bd : Int) (w : World) :
    Calls Try.prog 10 #[.agg #[.int .i64 an, .int .i64 ad], .agg #[.int .i64 bn, .int .i64 bd]] w fun e w' => e = .returned (.bool true) ∧ Below w.heap.size w w' := by
  have hin := Since.refl ((w.alloc (.cells #[.int .i64 an, .int .i64 ad] 35)).alloc (.cells #[.int .i64 bn, .int .i64 bd] 35))
  have Hbx := Lib.hid (boxes_start w an ad bn bd 35 35)
  go_enter Try.func10, Try.ntmps10
  go_wp2_with fail
  go_region_held3 (fun w' => w'.cell? ⟨w.heap.size, 0, none⟩ = some (.int .i64 an) ∧ w'.cell? ⟨w.heap.size, 1, none⟩ = some (.int .i64 ad) ∧ w'.cell? ⟨w.heap.size + 1, 0, none⟩ = some (.int .i64 bn) ∧ w'.cell? ⟨w.heap.size + 1, 1, none⟩ = some (.int .i64 bd) ∧ Since ((w.alloc (.cells #[.int .i64 an, .int .i64 ad] 35)).alloc (.cells #[.int .i64 bn, .int .i64 bd] 35)) w') (first | exact Boxes.five Hbx (by assumption) | exact Boxes.five Hbx (Since.drew (by assumption)))
    (first | (go_at_call 27; refine (toRat_since ((w.alloc (.cells #[.int .i64 an, .int .i64 ad] 35)).alloc (.cells #[.int .i64 bn, .int .i64 bd] 35)) _ _ _ (by first | assumption | exact Since.drew (by assumption))).mono ?_; rintro e w' ⟨rfl, hin2⟩) | (go_at_call 21; refine (calls_since (spec_CompareRat an ad bn bd _) (B := ((w.alloc (.cells #[.int .i64 an, .int .i64 ad] 35)).alloc (.cells #[.int .i64 bn, .int .i64 bd] 35))) (by first | assumption | exact Since.drew (by assumption))).mono ?_; rintro e w' ⟨⟨rfl, _⟩, hin2⟩))
  go_wp2_with fail
  go_region_held3 (fun w' => w'.cell? ⟨w.heap.size, 0, none⟩ = some (.int .i64 an) ∧ w'.cell? ⟨w.heap.size, 1, none⟩ = some (.int .i64 ad) ∧ w'.cell? ⟨w.heap.size + 1, 0, none⟩ = some (.int .i64 bn) ∧ w'.cell? ⟨w.heap.size + 1, 1, none⟩ = some (.int .i64 bd) ∧ Since ((w.alloc (.cells #[.int .i64 an, .int .i64 ad] 35)).alloc (.cells #[.int .i64 bn, .int .i64 bd] 35)) w') (first | exact Boxes.five Hbx (by assumption) | exact Boxes.five Hbx (Since.drew (by assumption)))
    (first | (go_at_call 27; refine (toRat_since ((w.alloc (.cells #[.int .i64 an, .int .i64 ad] 35)).alloc (.cells #[.int .i64 bn, .int .i64 bd] 35)) _ _ _ (by first | assumption | exact Since.drew (by assumption))).mono ?_; rintro e w' ⟨rfl, hin2⟩) | (go_at_call 20; refine (calls_since (impl_CompareRat an ad bn bd _) (B := ((w.alloc (.cells #[.int .i64 an, .int .i64 ad] 35)).alloc (.cells #[.int .i64 bn, .int .i64 bd] 35))) (by first | assumption | exact Since.drew (by assumption))).mono ?_; rintro e w' ⟨⟨rfl, _⟩, hin2⟩))
  go_wp2_with fail
  go_ret
  exact ⟨rfl, low2 (Since.low (by assumption))⟩
end Go.Proofs.Ytheggkeoheneiaa
