/- FnExactCompareExcesses: the walk, from the two contracts in closed words (law.py). -/
import Derived.Test.YtpidlmmpejoeaaaLkRats
import Derived.Test.YtpidlmmpejoeaaaLkBase
namespace Go.Proofs.Ytpidlmmpejoeaaa
open Go.RowKit
open Ve (R)
set_option maxRecDepth 100000 in
set_option maxHeartbeats 16000000 in
theorem fnExactCompareExcesses.walk_c (p0 : List R) (p1 : List R) (g0 : Int) (hS : p0.length ≤ 1048576 → p1.length ≤ 1048576 → ∀ (w : World) (u0 u1 : Value), InRats w u0 p0 → InRats w u1 p1 → Calls Try.prog 38 #[u0, u1] w fun e w' => e = .returned (.int .i64 g0) ∧ Below w.heap.size w w') (hI : p0.length ≤ 1048576 → p1.length ≤ 1048576 → ∀ (w : World) (u0 u1 : Value), InRats w u0 p0 → InRats w u1 p1 → Calls Try.prog 39 #[u0, u1] w fun e w' => e = .returned (.int .i64 g0) ∧ Below w.heap.size w w')
  (w : World) (u0 u1 : Value) (n0 : p0.length ≤ 9223372036854775807) (n1 : p1.length ≤ 9223372036854775807) (h0 : InRats w u0 p0) (h1 : InRats w u1 p1) :
  Calls Try.prog 10 #[u0, u1] w fun e w' => e = .returned (.bool true) ∧ Below w.heap.size w w' := by
 have HS := zH hS
 have HI := zH hI
 have N0 := zH n0
 have N1 := zH n1
 have A0 := zH h0.rg
 have A1 := zH h1.rg
 have HB : Hid (Below w.heap.size w w) := Below.refl w.heap.size w
 have HSZ : Hid (w.heap.size ≤ w.heap.size) := Nat.le_refl _
 clear hS hI n0 h0 n1 h1
 go_enter Try.func10, Try.ntmps10
 go_wp2_with fail
 refine (szRats_k A0.out.get N0.out 1048576 (by omega) (by omega)).mono ?_
 rintro e w1 ⟨⟨r0, rfl, r0l, r0u, r0e⟩, k⟩
 replace A0 := zH (A0.out.below k)
 replace A1 := zH (A1.out.below k)
 replace HB := zH (HB.out.trans (k.mono HB.out.size))
 replace HSZ := zH (And.intro HSZ.out k.size)
 clear k
 by_cases r0n : r0 < 0
 ·
  have hb2 : decide (r0 < 0) = true := by rw [decide_eq_true_iff]; exact r0n
  go_wp2_with fail
  go_ret
  exact ⟨rfl, HB.out⟩
 ·
  have hb_r0 : decide (r0 < 0) = false := by rw [decide_eq_false_iff_not]; exact r0n
  go_wp2_with fail
  refine (szRats_k A1.out.get N1.out r0 (by omega) (by omega)).mono ?_
  rintro e w2 ⟨⟨r1, rfl, r1l, r1u, r1e⟩, k⟩
  replace A0 := zH (A0.out.below k)
  replace A1 := zH (A1.out.below k)
  replace HB := zH (HB.out.trans (k.mono HB.out.size))
  replace HSZ := zH (And.intro HSZ.out k.size)
  clear k
  by_cases r1n : r1 < 0
  ·
   have hb2 : decide (r1 < 0) = true := by rw [decide_eq_true_iff]; exact r1n
   go_wp2_with fail
   go_ret
   exact ⟨rfl, HB.out⟩
  ·
   have hb_r1 : decide (r1 < 0) = false := by rw [decide_eq_false_iff_not]; exact r1n
   have F0 := zH ((show p0.length ≤ 1048576 by have := r0e (by omega); have := r1e (by omega); omega))
   have F1 := zH ((show p1.length ≤ 1048576 by have := r0e (by omega); have := r1e (by omega); omega))
   clear r0e r1e N0 N1
   go_wp2_with fail
   refine (toRats_k A0.out.get F0.out).mono ?_
   rintro e w3 ⟨⟨s0, rfl, hs⟩, k⟩
   replace A0 := zH (A0.out.below k)
   replace A1 := zH (A1.out.below k)
   replace HB := zH (HB.out.trans (k.mono HB.out.size))
   replace HSZ := zH (And.intro HSZ.out k.size)
   clear k
   have S0_f := zH hs.rg
   clear hs
   go_wp2_with fail
   refine (toRats_k A1.out.get F1.out).mono ?_
   rintro e w4 ⟨⟨s1, rfl, hs⟩, k⟩
   replace A0 := zH (A0.out.below k)
   replace A1 := zH (A1.out.below k)
   replace S0_f := zH (S0_f.out.below k)
   replace HB := zH (HB.out.trans (k.mono HB.out.size))
   replace HSZ := zH (And.intro HSZ.out k.size)
   clear k
   have S1_f := zH hs.rg
   clear hs
   go_wp2_with fail
   refine (HS.out F0.out F1.out _ _ _ S0_f.out.get.reads S1_f.out.get.reads).mono ?_
   rintro e w5 ⟨rfl, k⟩
   replace A0 := zH (A0.out.below k)
   replace A1 := zH (A1.out.below k)
   replace S0_f := zH (S0_f.out.below k)
   replace S1_f := zH (S1_f.out.below k)
   replace HB := zH (HB.out.trans (k.mono HB.out.size))
   replace HSZ := zH (And.intro HSZ.out k.size)
   clear k
   clear S0_f S1_f
   clear HS
   go_wp2_with fail
   refine (toRats_k A0.out.get F0.out).mono ?_
   rintro e w6 ⟨⟨x0, rfl, hs⟩, k⟩
   replace A0 := zH (A0.out.below k)
   replace A1 := zH (A1.out.below k)
   replace HB := zH (HB.out.trans (k.mono HB.out.size))
   replace HSZ := zH (And.intro HSZ.out k.size)
   clear k
   have X0_f := zH hs.rg
   clear hs
   go_wp2_with fail
   refine (toRats_k A1.out.get F1.out).mono ?_
   rintro e w7 ⟨⟨x1, rfl, hs⟩, k⟩
   replace A0 := zH (A0.out.below k)
   replace A1 := zH (A1.out.below k)
   replace X0_f := zH (X0_f.out.below k)
   replace HB := zH (HB.out.trans (k.mono HB.out.size))
   replace HSZ := zH (And.intro HSZ.out k.size)
   clear k
   have X1_f := zH hs.rg
   clear hs
   go_wp2_with fail
   refine (HI.out F0.out F1.out _ _ _ X0_f.out.get.reads X1_f.out.get.reads).mono ?_
   rintro e w8 ⟨rfl, k⟩
   replace A0 := zH (A0.out.below k)
   replace A1 := zH (A1.out.below k)
   replace X0_f := zH (X0_f.out.below k)
   replace X1_f := zH (X1_f.out.below k)
   replace HB := zH (HB.out.trans (k.mono HB.out.size))
   replace HSZ := zH (And.intro HSZ.out k.size)
   clear k
   go_wp2_with fail
   refine (toRats_k A0.out.get F0.out).mono ?_
   rintro e w9 ⟨⟨v0, rfl, hs⟩, k⟩
   replace A0 := zH (A0.out.below k)
   replace A1 := zH (A1.out.below k)
   replace X0_f := zH (X0_f.out.below k)
   replace X1_f := zH (X1_f.out.below k)
   replace HB := zH (HB.out.trans (k.mono HB.out.size))
   replace HSZ := zH (And.intro HSZ.out k.size)
   clear k
   have V_f := zH hs.rg
   clear hs
   go_wp2_with fail
   refine (eqRats_k X0_f.out.get.reads V_f.out.get.reads F0.out).mono ?_
   rintro e w10 ⟨rfl, k⟩
   clear V_f
   replace A0 := zH (A0.out.below k)
   replace A1 := zH (A1.out.below k)
   replace X0_f := zH (X0_f.out.below k)
   replace X1_f := zH (X1_f.out.below k)
   replace HB := zH (HB.out.trans (k.mono HB.out.size))
   replace HSZ := zH (And.intro HSZ.out k.size)
   clear k
   go_wp2_with fail
   refine (toRats_k A1.out.get F1.out).mono ?_
   rintro e w11 ⟨⟨v1, rfl, hs⟩, k⟩
   replace A0 := zH (A0.out.below k)
   replace A1 := zH (A1.out.below k)
   replace X0_f := zH (X0_f.out.below k)
   replace X1_f := zH (X1_f.out.below k)
   replace HB := zH (HB.out.trans (k.mono HB.out.size))
   replace HSZ := zH (And.intro HSZ.out k.size)
   clear k
   have V_f := zH hs.rg
   clear hs
   go_wp2_with fail
   refine (eqRats_k X1_f.out.get.reads V_f.out.get.reads F1.out).mono ?_
   rintro e w12 ⟨rfl, k⟩
   clear V_f
   replace A0 := zH (A0.out.below k)
   replace A1 := zH (A1.out.below k)
   replace X0_f := zH (X0_f.out.below k)
   replace X1_f := zH (X1_f.out.below k)
   replace HB := zH (HB.out.trans (k.mono HB.out.size))
   replace HSZ := zH (And.intro HSZ.out k.size)
   clear k
   go_wp2_with fail
   go_ret
   exact ⟨rfl, HB.out⟩
end Go.Proofs.Ytpidlmmpejoeaaa
