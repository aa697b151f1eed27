/- FnExactShareOf: the walk, from the two contracts in closed words (law.py). -/
import Derived.Test.YtpidlmmpejoeaaaGmA
import Derived.Test.YtpidlmmpejoeaaaLkRats
import Derived.Test.YtpidlmmpejoeaaaLkBase
import Derived.Test.YtpidlmmpejoeaaaGRa
import Derived.Test.YtpidlmmpejoeaaaGrI
namespace Go.Proofs.Ytpidlmmpejoeaaa
open Go.RowKit
open Ve (R)
set_option maxRecDepth 100000 in
set_option maxHeartbeats 16000000 in
theorem fnExactShareOf.walk_c (p0 : List R) (a1 : Int) (g0 : R) (g1 : Bool) (hS : p0.length ≤ 1048576 → ∀ (w : World) (u0 : Value), InRats w u0 p0 → Calls Try.prog 12 #[u0, .int .i64 a1] w fun e w' => e = .returned (.tuple #[.agg #[.int .i64 g0.1, .int .i64 g0.2], .bool g1]) ∧ Below w.heap.size w w') (hI : p0.length ≤ 1048576 → ∀ (w : World) (u0 : Value), InRats w u0 p0 → Calls Try.prog 14 #[u0, .int .i64 a1] w fun e w' => e = .returned (.tuple #[.agg #[.int .i64 g0.1, .int .i64 g0.2], .bool g1]) ∧ Below w.heap.size w w')
  (w : World) (u0 : Value) (n0 : p0.length ≤ 9223372036854775807) (h0 : InRats w u0 p0) :
  Calls Try.prog 3 #[u0, .int .i64 a1] w fun e w' => e = .returned (.bool true) ∧ Below w.heap.size w w' := by
 have HS := zH hS
 have HI := zH hI
 have N0 := zH n0
 have A0 := zH h0.rg
 have HB : Hid (Below w.heap.size w w) := Below.refl w.heap.size w
 have HSZ : Hid (w.heap.size ≤ w.heap.size) := Nat.le_refl _
 clear hS hI n0 h0
 go_enter Try.func3, Try.ntmps3
 go_wp2_with fail
 refine (szRats_k A0.out.get N0.out 1048576 (by omega) (by omega)).mono ?_
 rintro e w1 ⟨⟨r0, rfl, r0l, r0u, r0e⟩, k⟩
 replace A0 := zH (A0.out.below k)
 replace HB := zH (HB.out.trans (k.mono HB.out.size))
 replace HSZ := zH (And.intro HSZ.out k.size)
 clear k
 by_cases r0n : r0 < 0
 ·
  have hb2 : decide (r0 < 0) = true := by rw [decide_eq_true_iff]; exact r0n
  go_wp2_with fail
  go_ret
  exact ⟨rfl, HB.out⟩
 ·
  have hb_r0 : decide (r0 < 0) = false := by rw [decide_eq_false_iff_not]; exact r0n
  have F0 := zH ((show p0.length ≤ 1048576 by have := r0e (by omega); omega))
  clear r0e N0
  go_wp2_with fail
  refine (toRats_k A0.out.get F0.out).mono ?_
  rintro e w2 ⟨⟨s0, rfl, hs⟩, k⟩
  replace A0 := zH (A0.out.below k)
  replace HB := zH (HB.out.trans (k.mono HB.out.size))
  replace HSZ := zH (And.intro HSZ.out k.size)
  clear k
  have S0_f := zH hs.rg
  clear hs
  go_wp2_with fail
  refine (HS.out F0.out _ _ S0_f.out.get.reads).mono ?_
  rintro e w3 ⟨rfl, k⟩
  replace A0 := zH (A0.out.below k)
  replace S0_f := zH (S0_f.out.below k)
  replace HB := zH (HB.out.trans (k.mono HB.out.size))
  replace HSZ := zH (And.intro HSZ.out k.size)
  clear k
  clear S0_f
  clear HS
  replace A0 := zH (A0.out.more (.cells #[.int .i64 g0.1, .int .i64 g0.2] 25))
  replace HB := zH (HB.out.alloc HB.out.size (.cells #[.int .i64 g0.1, .int .i64 g0.2] 25))
  replace HSZ := zH (And.intro HSZ.out (size1 w3 (.cells #[.int .i64 g0.1, .int .i64 g0.2] 25)))
  have ZR_f := zH (rg_new w3 #[.int .i64 g0.1, .int .i64 g0.2] 25)
  go_wp2_with fail
  generalize hWx0 : (w3.alloc (.cells #[.int .i64 g0.1, .int .i64 g0.2] 25)) = Wx0 at *
  refine (toRats_k A0.out.get F0.out).mono ?_
  rintro e w4 ⟨⟨x0, rfl, hs⟩, k⟩
  replace A0 := zH (A0.out.below k)
  replace ZR_f := zH (ZR_f.out.below k)
  replace HB := zH (HB.out.trans (k.mono HB.out.size))
  replace HSZ := zH (And.intro HSZ.out k.size)
  clear k
  have X0_f := zH hs.rg
  clear hs
  go_wp2_with fail
  refine (HI.out F0.out _ _ X0_f.out.get.reads).mono ?_
  rintro e w5 ⟨rfl, k⟩
  replace A0 := zH (A0.out.below k)
  replace ZR_f := zH (ZR_f.out.below k)
  replace X0_f := zH (X0_f.out.below k)
  replace HB := zH (HB.out.trans (k.mono HB.out.size))
  replace HSZ := zH (And.intro HSZ.out k.size)
  clear k
  have hne_g1 := ne_selfb g1
  replace A0 := zH (A0.out.more (.cells #[.int .i64 g0.1, .int .i64 g0.2] 25))
  replace ZR_f := zH (ZR_f.out.more (.cells #[.int .i64 g0.1, .int .i64 g0.2] 25))
  replace X0_f := zH (X0_f.out.more (.cells #[.int .i64 g0.1, .int .i64 g0.2] 25))
  replace HB := zH (HB.out.alloc HB.out.size (.cells #[.int .i64 g0.1, .int .i64 g0.2] 25))
  replace HSZ := zH (And.intro HSZ.out (size1 w5 (.cells #[.int .i64 g0.1, .int .i64 g0.2] 25)))
  have GR_f := zH (rg_new w5 #[.int .i64 g0.1, .int .i64 g0.2] 25)
  obtain ⟨m1_0, m1_1⟩ := two GR_f.out.get
  obtain ⟨m2_0, m2_1⟩ := two ZR_f.out.get
  go_wp2_with fail
  generalize hWr1 : (w5.alloc (.cells #[.int .i64 g0.1, .int .i64 g0.2] 25)) = Wr1 at *
  clear m1_0 m1_1 m2_0 m2_1
  refine (laws_eqRat g0.1 g0.2 _).mono ?_
  rintro e w6 ⟨rfl, k⟩
  replace A0 := zH (A0.out.below k)
  replace ZR_f := zH (ZR_f.out.below k)
  replace X0_f := zH (X0_f.out.below k)
  replace GR_f := zH (GR_f.out.below k)
  replace HB := zH (HB.out.trans (k.mono HB.out.size))
  replace HSZ := zH (And.intro HSZ.out k.size)
  clear k
  go_wp2_with fail
  refine (toRats_k A0.out.get F0.out).mono ?_
  rintro e w7 ⟨⟨v0, rfl, hs⟩, k⟩
  replace A0 := zH (A0.out.below k)
  replace ZR_f := zH (ZR_f.out.below k)
  replace X0_f := zH (X0_f.out.below k)
  replace GR_f := zH (GR_f.out.below k)
  replace HB := zH (HB.out.trans (k.mono HB.out.size))
  replace HSZ := zH (And.intro HSZ.out k.size)
  clear k
  have V_f := zH hs.rg
  clear hs
  go_wp2_with fail
  refine (eqRats_k X0_f.out.get.reads V_f.out.get.reads F0.out).mono ?_
  rintro e w8 ⟨rfl, k⟩
  clear V_f
  replace A0 := zH (A0.out.below k)
  replace ZR_f := zH (ZR_f.out.below k)
  replace X0_f := zH (X0_f.out.below k)
  replace GR_f := zH (GR_f.out.below k)
  replace HB := zH (HB.out.trans (k.mono HB.out.size))
  replace HSZ := zH (And.intro HSZ.out k.size)
  clear k
  go_wp2_with fail
  go_ret
  exact ⟨rfl, HB.out⟩
end Go.Proofs.Ytpidlmmpejoeaaa
