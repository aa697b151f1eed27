/- CompareExcesses, both sides. -/
import Derived.Test.YtpidlmmpejoeaaaGreatPyA
import Derived.Test.YtpidlmmpejoeaaaGreatGRa
set_option maxRecDepth 100000
namespace Go.Proofs.YtpidlmmpejoeaaaGreat
open Go.RowKit
open Ve (R)
open Gm (G)

theorem spec_cmpX (x y : R) (w : World) : Calls Tryz.prog 34 #[.agg #[.int .i64 x.1, .int .i64 x.2], .agg #[.int .i64 y.1, .int .i64 y.2]] w fun e w' => e = .returned (.int .i64 (Py.cmp x y)) ∧ Below w.heap.size w w' := spec_CompareRat x.1 x.2 y.1 y.2 w
theorem impl_cmpX (x y : R) (w : World) : Calls Tryz.prog 18 #[.agg #[.int .i64 x.1, .int .i64 x.2], .agg #[.int .i64 y.1, .int .i64 y.2]] w fun e w' => e = .returned (.int .i64 (Py.cmp x y)) ∧ Below w.heap.size w w' := impl_CompareRat x.1 x.2 y.1 y.2 w
theorem ne0 {z : Int} (h : z ≠ 0) : (z != 0) = true ∧ (z == 0) = false := ⟨by rw [bne_iff_ne]; exact h, by rw [beq_eq_false_iff_ne]; exact h⟩
set_option maxHeartbeats 4000000 in
theorem spec_CompareExcesses {w : World} {u v : Value} {xs ys : List R} (hu : InRats w u xs) (hv : InRats w v ys) (hx : xs.length ≤ 1048576) (_hy : ys.length ≤ 1048576) :
  Calls Tryz.prog 27 #[u, v] w fun e w' => e = .returned (.int .i64 (Py.cmpL xs ys)) ∧ Below w.heap.size w w' := by
 obtain ⟨a1, c1, rfl, h1⟩ := hu
 obtain ⟨a2, c2, rfl, h2⟩ := hv
 obtain ⟨Z, hZ⟩ : ∃ Z, Py.cmpL xs ys = Z := ⟨_, rfl⟩
 rw [hZ]
 have HZ := zH hZ
 have H1 := zH h1
 have H2 := zH h2
 clear hZ h1 h2
 go_enter Tryz.func27, Tryz.ntmps27
 go_wp2_with fail
 go_loopw [5] (fun i wr => ∃ k : Nat, k ≤ xs.length ∧ k ≤ ys.length ∧ i = .int .i64 k ∧ Hid (Py.cmpL (xs.drop k) (ys.drop k) = Z) ∧ Hid (Below w.heap.size w wr)) (fun i _ => xs.length - (intOf i).toNat)
 case atStart => exact ⟨0, Nat.zero_le _, Nat.zero_le _, rfl, by show Py.cmpL (xs.drop 0) (ys.drop 0) = Z; rw [List.drop_zero, List.drop_zero]; exact HZ.out, Below.refl _ _⟩
 case round =>
  obtain ⟨k, hk, hk2, rfl, hE, hB⟩ := hrel
  by_cases hl1 : k < xs.length
  ·
   by_cases hl2 : k < ys.length
   ·
    obtain ⟨b1, o1, rfl, l1, p0, p1⟩ := (H1.out.below hB.out).at k hl1
    obtain ⟨b2, o2, rfl, l2, q0, q1⟩ := (H2.out.below hB.out).at k hl2
    have hsz := hB.out.size
    have HQ : Hid (Quad b1 (o1 + k * 2) b2 (o2 + k * 2) (Ve.at_ xs k) (Ve.at_ ys k) wr) := ⟨p0, p1, q0, q1, by omega, by omega⟩
    have Hmore := zH (fun h => (Py.cmpL_more hl1 hl2 h).symm.trans hE.out)
    have Hstop := zH (fun h => (Py.cmpL_stop hl1 hl2 h).symm.trans hE.out)
    have Hbd := zH (Py.cmp_bd (Ve.at_ xs k) (Ve.at_ ys k))
    have Hc := zH (fun w => spec_cmpX (Ve.at_ xs k) (Ve.at_ ys k) w)
    generalize Ve.at_ xs k = x at *
    generalize Ve.at_ ys k = y at *
    generalize Py.cmp x y = z at *
    clear p0 p1 q0 q1
    have n1 : (k : Int) < (xs.length : Int) := by omega
    have n2 : (k : Int) < (ys.length : Int) := by omega
    go_upto_region 4 with (fail)
    have hg0 := (Since.refl wr).drew
    refine wp_region_held_drew (S := fun w' => w'.cell? ⟨b1, o1 + k * 2, none⟩ = some (.int .i64 x.1) ∧ w'.cell? ⟨b1, o1 + k * 2 + 1, none⟩ = some (.int .i64 x.2) ∧ w'.cell? ⟨b2, o2 + k * 2, none⟩ = some (.int .i64 y.1) ∧ w'.cell? ⟨b2, o2 + k * 2 + 1, none⟩ = some (.int .i64 y.2) ∧ Since wr w') (by kernel_rfl) ?_ (fun hHeld => ?_)
    ·
     exact Quad.five HQ hg0
    refine tk1 0 ⟨some 19, .move (.tmp 0), 27, "l11_payoff.go:116", #[], none⟩ ?_
    refine tk1 1 ⟨some 20, .move (.tmp 5), 3, "l11_payoff.go:116", #[], none⟩ ?_
    refine tk1 2 ⟨some 21, .indexAddr 27 (.tmp 19) (.tmp 20), 0, "l11_payoff.go:116", #[⟨0, .data⟩, ⟨1, .data⟩], none⟩ ?_
    refine tk1 3 ⟨some 22, .load 32 (.tmp 21), 32, "l11_payoff.go:116", #[⟨2, .data⟩], none⟩ ?_
    refine tk1 4 ⟨some 23, .move (.tmp 1), 27, "l11_payoff.go:116", #[], none⟩ ?_
    refine tk1 5 ⟨some 24, .move (.tmp 5), 3, "l11_payoff.go:116", #[], none⟩ ?_
    refine tk1 6 ⟨some 25, .indexAddr 27 (.tmp 23) (.tmp 24), 0, "l11_payoff.go:116", #[⟨4, .data⟩, ⟨5, .data⟩], none⟩ ?_
    refine tk1 7 ⟨some 26, .load 32 (.tmp 25), 32, "l11_payoff.go:116", #[⟨6, .data⟩], none⟩ ?_
    try simp only [Act.put, zA, zB, zC]
    refine rd1 8 ⟨some 27, .call { callee := .value (.func 34), args := #[.tmp 22, .tmp 26], argTypes := #[32, 32] }, 3, "l11_payoff.go:116", #[⟨3, .data⟩, ⟨7, .data⟩], none⟩ fun K hK => ?_
    go_simp
    (go_at_call 34; refine (Hc.out _).mono ?_; rintro e w6 ⟨rfl, hb6⟩; have hg6 := hg0.trans hb6)
    refine hK.out _ _ ?_ (fun hHeld => ?_)
    ·
     exact Quad.five HQ hg6
    clear hK K
    refine tk1 9 ⟨some 6, .assign (.tmp 27), 3, "l11_payoff.go:116", #[⟨8, .data⟩, ⟨8, .chain⟩, ⟨0, .phase⟩, ⟨1, .phase⟩, ⟨2, .phase⟩, ⟨3, .phase⟩, ⟨4, .phase⟩, ⟨5, .phase⟩, ⟨6, .phase⟩, ⟨7, .phase⟩, ⟨8, .phase⟩], none⟩ ?_
    try simp only [Act.put, zA, zB, zC]
    refine wpAnyH_done (by kernel_rfl) ?_ _
    have HB6 := zH (hB.out.trans (hg6.low.mono hsz))
    clear hg0 hg6 hb6 HQ Hc
    by_cases hz : z = 0
    ·
     have HE2 := zH (Hmore.out hz)
     subst hz
     clear Hmore Hstop Hbd
     go_wp2_with fail
     go_roundw
     case rel => exact ⟨k + 1, by omega, by omega, by go_num, HE2, HB6⟩
     case measure => simp [intOf]; omega
    ·
     have HE2 := zH (Hstop.out hz)
     have hz2 := (ne0 hz).1
     have hz3 := (ne0 hz).2
     clear Hmore Hstop Hbd hz
     go_wp2_with fail
     go_ret
     exact ⟨ret_int HE2.out, HB6.out⟩
   ·
    have HE2 := zH ((Py.cmpL_gt hl1 (by omega)).symm.trans hE.out)
    have n1 : (k : Int) < (xs.length : Int) := by omega
    have n2 : ¬ (k : Int) < (ys.length : Int) := by omega
    have n3 : decide ((xs.length : Int) < (ys.length : Int)) = false := by rw [decide_eq_false_iff_not]; omega
    have n4 : decide ((ys.length : Int) < (xs.length : Int)) = true := by rw [decide_eq_true_iff]; omega
    go_wp2_with fail
    go_ret
    exact ⟨ret_int HE2.out, hB.out⟩
  ·
   by_cases hl2 : k < ys.length
   ·
    have HE2 := zH ((Py.cmpL_lt (by omega) hl2).symm.trans hE.out)
    have n1 : ¬ (k : Int) < (xs.length : Int) := by omega
    have n3 : decide ((xs.length : Int) < (ys.length : Int)) = true := by rw [decide_eq_true_iff]; omega
    go_wp2_with fail
    go_ret
    exact ⟨ret_int HE2.out, hB.out⟩
   ·
    have HE2 := zH ((Py.cmpL_end (a := xs) (b := ys) (k := k) (by omega) (by omega)).symm.trans hE.out)
    have n1 : ¬ (k : Int) < (xs.length : Int) := by omega
    have n3 : decide ((xs.length : Int) < (ys.length : Int)) = false := by rw [decide_eq_false_iff_not]; omega
    have n4 : decide ((ys.length : Int) < (xs.length : Int)) = false := by rw [decide_eq_false_iff_not]; omega
    go_wp2_with fail
    go_ret
    exact ⟨ret_int HE2.out, hB.out⟩
set_option maxHeartbeats 4000000 in
theorem slices_CompareFunc {w : World} {u v : Value} {xs ys : List R} (hu : InRats w u xs) (hv : InRats w v ys) (hx : xs.length ≤ 1048576) (_hy : ys.length ≤ 1048576) :
  Calls Tryz.prog 61 #[u, v, .func (.func 18) #[] #[]] w fun e w' => e = .returned (.int .i64 (Py.cmpL xs ys)) ∧ Below w.heap.size w w' := by
 obtain ⟨a1, c1, rfl, h1⟩ := hu
 obtain ⟨a2, c2, rfl, h2⟩ := hv
 obtain ⟨Z, hZ⟩ : ∃ Z, Py.cmpL xs ys = Z := ⟨_, rfl⟩
 rw [hZ]
 have HZ := zH hZ
 have H1 := zH h1
 have H2 := zH h2
 clear hZ h1 h2
 go_enter Tryz.func61, Tryz.ntmps61
 go_wp2_with fail
 go_loopw [13] (fun i wr => ∃ k : Nat, k ≤ xs.length ∧ k ≤ ys.length ∧ i = .int .i64 k ∧ Hid (Py.cmpL (xs.drop k) (ys.drop k) = Z) ∧ Hid (Below w.heap.size w wr)) (fun i _ => xs.length - (intOf i).toNat)
 case atStart => exact ⟨0, Nat.zero_le _, Nat.zero_le _, rfl, by show Py.cmpL (xs.drop 0) (ys.drop 0) = Z; rw [List.drop_zero, List.drop_zero]; exact HZ.out, Below.refl _ _⟩
 case round =>
  obtain ⟨k, hk, hk2, rfl, hE, hB⟩ := hrel
  have hsz := hB.out.size
  by_cases hl1 : k < xs.length
  ·
   obtain ⟨b1, o1, rfl, l1, p0, p1⟩ := (H1.out.below hB.out).at k hl1
   by_cases hl2 : k < ys.length
   ·
    have HB1 := zH (hB.out.alloc hsz (.cells #[.int .i64 (Ve.at_ xs k).1, .int .i64 (Ve.at_ xs k).2] 32))
    obtain ⟨b2, o2, rfl, l2, q0, q1⟩ := (H2.out.below HB1.out).at k hl2
    have Hmore := zH (fun h => (Py.cmpL_more hl1 hl2 h).symm.trans hE.out)
    have Hstop := zH (fun h => (Py.cmpL_stop hl1 hl2 h).symm.trans hE.out)
    have Hc := zH (fun w => impl_cmpX (Ve.at_ xs k) (Ve.at_ ys k) w)
    generalize Ve.at_ xs k = x at *
    generalize Ve.at_ ys k = y at *
    generalize Py.cmp x y = z at *
    have n1 : (k : Int) < (xs.length : Int) := by omega
    have n2 : decide ((ys.length : Int) ≤ (k : Int)) = false := by rw [decide_eq_false_iff_not]; omega
    have HB2 := zH (HB1.out.alloc HB1.out.size (.cells #[.int .i64 y.1, .int .i64 y.2] 32))
    go_wp2_with fail
    refine (Hc.out _).mono ?_
    rintro e w6 ⟨rfl, hb6⟩
    have HB6 := zH (HB2.out.trans (hb6.mono HB2.out.size))
    clear hb6 Hc HB1 HB2 p0 p1 q0 q1
    by_cases hz : z = 0
    ·
     have HE2 := zH (Hmore.out hz)
     subst hz
     clear Hmore Hstop
     go_wp2_with fail
     go_roundw
     case rel => exact ⟨k + 1, by omega, by omega, by go_num, HE2, HB6⟩
     case measure => simp [intOf]; omega
    ·
     have HE2 := zH (Hstop.out hz)
     have hz2 := (ne0 hz).1
     have hz3 := (ne0 hz).2
     clear Hmore Hstop hz
     go_wp2_with fail
     go_ret
     exact ⟨ret_int HE2.out, HB6.out⟩
   ·
    have HE2 := zH ((Py.cmpL_gt hl1 (by omega)).symm.trans hE.out)
    have HB1 := zH (hB.out.alloc hsz (.cells #[.int .i64 (Ve.at_ xs k).1, .int .i64 (Ve.at_ xs k).2] 32))
    have n1 : (k : Int) < (xs.length : Int) := by omega
    have n2 : decide ((ys.length : Int) ≤ (k : Int)) = true := by rw [decide_eq_true_iff]; omega
    generalize Ve.at_ xs k = x at *
    have n3 : ys.length ≤ k := by omega
    go_wp2_with fail
    go_ret
    exact ⟨ret_int HE2.out, HB1.out⟩
  ·
   by_cases hl2 : k < ys.length
   ·
    have HE2 := zH ((Py.cmpL_lt (by omega) hl2).symm.trans hE.out)
    have n1 : ¬ (k : Int) < (xs.length : Int) := by omega
    have n3 : decide ((xs.length : Int) < (ys.length : Int)) = true := by rw [decide_eq_true_iff]; omega
    have n5 : xs.length < ys.length := by omega
    go_wp2_with fail
    go_ret
    exact ⟨ret_int HE2.out, hB.out⟩
   ·
    have HE2 := zH ((Py.cmpL_end (a := xs) (b := ys) (k := k) (by omega) (by omega)).symm.trans hE.out)
    have n1 : ¬ (k : Int) < (xs.length : Int) := by omega
    have n3 : decide ((xs.length : Int) < (ys.length : Int)) = false := by rw [decide_eq_false_iff_not]; omega
    have n5 : ¬ xs.length < ys.length := by omega
    go_wp2_with fail
    go_ret
    exact ⟨ret_int HE2.out, hB.out⟩
theorem impl_CompareExcesses {w : World} {u v : Value} {xs ys : List R} (hu : InRats w u xs) (hv : InRats w v ys) (hx : xs.length ≤ 1048576) (_hy : ys.length ≤ 1048576) :
  Calls Tryz.prog 26 #[u, v] w fun e w' => e = .returned (.int .i64 (Py.cmpL xs ys)) ∧ Below w.heap.size w w' := by
 have HC := zH (slices_CompareFunc hu hv hx _hy)
 obtain ⟨a1, c1, rfl, _⟩ := hu
 obtain ⟨a2, c2, rfl, _⟩ := hv
 generalize Py.cmpL xs ys = Z at *
 go_enter Tryz.func26, Tryz.ntmps26
 go_wp2_with fail
 refine HC.out.mono ?_
 rintro e w1 ⟨rfl, hb⟩
 have Hb := zH hb
 clear hb
 go_wp2_with fail
 go_ret
 exact ⟨rfl, Hb.out⟩
end Go.Proofs.YtpidlmmpejoeaaaGreat
