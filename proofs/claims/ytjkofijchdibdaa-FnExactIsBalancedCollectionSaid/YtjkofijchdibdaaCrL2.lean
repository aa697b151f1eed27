/- FnExactIsBalancedCollection: the walk, from the two contracts in closed words (law.py). -/
import Derived.Test.YtjkofijchdibdaaGmA
import Derived.Test.YtjkofijchdibdaaLkRats
import Derived.Test.YtjkofijchdibdaaCrC
namespace Go.Proofs.Ytjkofijchdibdaa
open Go.RowKit
open Ve (R)
set_option maxRecDepth 100000 in
set_option maxHeartbeats 16000000 in
theorem fnExactIsBalancedCollection.walk_c (a0 : Int) (p1 : List R) (g0 : Bool) (hS : p1.length ≤ 1048576 → ∀ (w : World) (u1 : Value), InRats w u1 p1 → Calls Try.prog 17 #[.int .i64 a0, u1] w fun e w' => e = .returned (.bool g0) ∧ Below w.heap.size w w') (hI : p1.length ≤ 1048576 → ∀ (w : World) (u1 : Value), InRats w u1 p1 → Calls Try.prog 19 #[.int .i64 a0, u1] w fun e w' => e = .returned (.bool g0) ∧ Below w.heap.size w w')
  (w : World) (u1 : Value) (n1 : p1.length ≤ 9223372036854775807) (h1 : InRats w u1 p1) :
  Calls Try.prog 4 #[.int .i64 a0, u1] w fun e w' => e = .returned (.bool true) ∧ Below w.heap.size w w' := by
 have HS := zH hS
 have HI := zH hI
 have N1 := zH n1
 have A1 := zH h1.rg
 have HB : Hid (Below w.heap.size w w) := Below.refl w.heap.size w
 have HSZ : Hid (w.heap.size ≤ w.heap.size) := Nat.le_refl _
 clear hS hI n1 h1
 go_enter Try.func4, Try.ntmps4
 go_wp2_with fail
 refine (szRats_k A1.out.get N1.out 1048576 (by omega) (by omega)).mono ?_
 rintro e w1 ⟨⟨r1, rfl, r1l, r1u, r1e⟩, k⟩
 replace A1 := zH (A1.out.below k)
 replace HB := zH (HB.out.trans (k.mono HB.out.size))
 replace HSZ := zH (And.intro HSZ.out k.size)
 clear k
 by_cases r1n : r1 < 0
 ·
  have hb2 : decide (r1 < 0) = true := by rw [decide_eq_true_iff]; exact r1n
  go_wp2_with fail
  go_ret
  exact ⟨rfl, HB.out⟩
 ·
  have hb_r1 : decide (r1 < 0) = false := by rw [decide_eq_false_iff_not]; exact r1n
  have F1 := zH ((show p1.length ≤ 1048576 by have := r1e (by omega); omega))
  clear r1e N1
  go_wp2_with fail
  refine (toRats_k A1.out.get F1.out).mono ?_
  rintro e w2 ⟨⟨s1, rfl, hs⟩, k⟩
  replace A1 := zH (A1.out.below k)
  replace HB := zH (HB.out.trans (k.mono HB.out.size))
  replace HSZ := zH (And.intro HSZ.out k.size)
  clear k
  have S1_f := zH hs.rg
  clear hs
  go_wp2_with fail
  refine (HS.out F1.out _ _ S1_f.out.get.reads).mono ?_
  rintro e w3 ⟨rfl, k⟩
  replace A1 := zH (A1.out.below k)
  replace S1_f := zH (S1_f.out.below k)
  replace HB := zH (HB.out.trans (k.mono HB.out.size))
  replace HSZ := zH (And.intro HSZ.out k.size)
  clear k
  clear S1_f
  clear HS
  go_wp2_with fail
  refine (toRats_k A1.out.get F1.out).mono ?_
  rintro e w4 ⟨⟨x1, rfl, hs⟩, k⟩
  replace A1 := zH (A1.out.below k)
  replace HB := zH (HB.out.trans (k.mono HB.out.size))
  replace HSZ := zH (And.intro HSZ.out k.size)
  clear k
  have X1_f := zH hs.rg
  clear hs
  go_wp2_with fail
  refine (HI.out F1.out _ _ X1_f.out.get.reads).mono ?_
  rintro e w5 ⟨rfl, k⟩
  replace A1 := zH (A1.out.below k)
  replace X1_f := zH (X1_f.out.below k)
  replace HB := zH (HB.out.trans (k.mono HB.out.size))
  replace HSZ := zH (And.intro HSZ.out k.size)
  clear k
  have hne_g0 := ne_selfb g0
  go_wp2_with fail
  refine (toRats_k A1.out.get F1.out).mono ?_
  rintro e w6 ⟨⟨v1, rfl, hs⟩, k⟩
  replace A1 := zH (A1.out.below k)
  replace X1_f := zH (X1_f.out.below k)
  replace HB := zH (HB.out.trans (k.mono HB.out.size))
  replace HSZ := zH (And.intro HSZ.out k.size)
  clear k
  have V_f := zH hs.rg
  clear hs
  go_wp2_with fail
  refine (eqRats_k X1_f.out.get.reads V_f.out.get.reads F1.out).mono ?_
  rintro e w7 ⟨rfl, k⟩
  clear V_f
  replace A1 := zH (A1.out.below k)
  replace X1_f := zH (X1_f.out.below k)
  replace HB := zH (HB.out.trans (k.mono HB.out.size))
  replace HSZ := zH (And.intro HSZ.out k.size)
  clear k
  go_wp2_with fail
  go_ret
  exact ⟨rfl, HB.out⟩
end Go.Proofs.Ytjkofijchdibdaa
