/- FnExactParseGame: the walk, from the two contracts in closed words (law.py). -/
import Derived.Test.YtambneapofaclaaGreatDoorGmA
import Derived.Test.YtambneapofaclaaGreatDoorGtF
namespace Go.Proofs.YtambneapofaclaaGreatDoor
open Go.RowKit
open Gm (G)
set_option maxRecDepth 100000 in
set_option maxHeartbeats 16000000 in
theorem fnExactParseGame.walk_c (a0 : ByteArray) (X0 : G) (g1 : Int) (hX : a0.size ≤ 1048576 → GmOk X0) (hS : a0.size ≤ 1048576 → ∀ (w : World), Calls Tryz.prog 13 #[.string a0] w fun e w' => (∃ ya yb : Value, e = .returned (.tuple #[(.agg #[ya, yb]), .int .i64 g1]) ∧ ResGm w.heap.size w'.heap.size w' (.agg #[ya, yb]) X0) ∧ Below w.heap.size w w') (hI : a0.size ≤ 1048576 → ∀ (w : World), Env w → Calls Tryz.prog 8 #[.string a0] w fun e w' => (∃ ya yb : Value, e = .returned (.tuple #[(.agg #[ya, yb]), .int .i64 g1]) ∧ ResGm w.heap.size w'.heap.size w' (.agg #[ya, yb]) X0) ∧ Below w.heap.size w w')
    (w : World) (hT : Env w)   :
    Calls Tryz.prog 4 #[.string a0] w fun e w' => e = .returned (.bool true) ∧ Below w.heap.size w w' := by
  have HS := Lib.hid hS
  have HI := Lib.hid hI
  have HX := Lib.hid hX
  have T_f := Lib.hid hT.rg
  clear hT
  have HB : Hid (Below w.heap.size w w) := Below.refl w.heap.size w
  have HSZ : Hid (w.heap.size ≤ w.heap.size) := Nat.le_refl _
  clear hS hI hX 
  by_cases bs0 : (1048576 : Int) < a0.size
  · have hbs0 : decide ((a0.size : Int) > 1048576) = true := by rw [decide_eq_true_iff]; exact bs0
    have hbt0 : decide (a0.size > 1048576) = true := by rw [decide_eq_true_iff]; omega
    go_enter Tryz.func4, Tryz.ntmps4
    go_wp2_with fail
    go_ret
    exact ⟨rfl, HB.out⟩
  have hbs0 : decide ((a0.size : Int) > 1048576) = false := by rw [decide_eq_false_iff_not]; exact bs0
  have hs0 : a0.size ≤ 1048576 := by omega
  clear bs0
  go_enter Tryz.func4, Tryz.ntmps4
  have FX := Lib.hid (HX.out hs0)
  clear HX
  go_wp2_with fail
  refine (HS.out hs0 _  ).mono ?_
  rintro e w1 ⟨⟨za, zb, rfl, hs⟩, k⟩
  replace T_f := Lib.hid (T_f.out.below k)
  replace HB := Lib.hid (HB.out.trans (k.mono HB.out.size))
  replace HSZ := Lib.hid (And.intro HSZ.out k.size)
  clear k
  have Z_f := Lib.hid hs.rg
  clear hs
  clear HS
  obtain ⟨o0, o1⟩ := (ResGm.reads_c Z_f.out.get).one
  have t0 := sto o0
  have t1 := sto o1
  replace T_f := Lib.hid (T_f.out.more (.cells #[za, zb] 26))
  replace Z_f := Lib.hid (Z_f.out.more (.cells #[za, zb] 26))
  replace HB := Lib.hid (HB.out.alloc HB.out.size (.cells #[za, zb] 26))
  replace HSZ := Lib.hid (And.intro HSZ.out (size1 w1 (.cells #[za, zb] 26)))
  have ZB := Lib.hid (rg_new w1 #[za, zb] 26)
  clear o0 o1
  go_wp2_with fail
  clear t0 t1
  generalize hWg : (w1.alloc (.cells #[za, zb] 26)) = Wg at *
  refine (HI.out hs0 _  T_f.out.get ).mono ?_
  rintro e w2 ⟨⟨ga, gb, rfl, hs⟩, k⟩
  replace T_f := Lib.hid (T_f.out.below k)
  replace Z_f := Lib.hid (Z_f.out.below k)
  replace ZB := Lib.hid (ZB.out.below k)
  replace HB := Lib.hid (HB.out.trans (k.mono HB.out.size))
  replace HSZ := Lib.hid (And.intro HSZ.out k.size)
  clear k
  have G_f := Lib.hid hs.rg
  clear hs
  obtain ⟨o0, o1⟩ := (ResGm.reads_c G_f.out.get).one
  have t0 := sto o0
  have t1 := sto o1
  replace T_f := Lib.hid (T_f.out.more (.cells #[ga, gb] 26))
  replace Z_f := Lib.hid (Z_f.out.more (.cells #[ga, gb] 26))
  replace ZB := Lib.hid (ZB.out.more (.cells #[ga, gb] 26))
  replace G_f := Lib.hid (G_f.out.more (.cells #[ga, gb] 26))
  replace HB := Lib.hid (HB.out.alloc HB.out.size (.cells #[ga, gb] 26))
  replace HSZ := Lib.hid (And.intro HSZ.out (size1 w2 (.cells #[ga, gb] 26)))
  have GB := Lib.hid (rg_new w2 #[ga, gb] 26)
  clear o0 o1
  obtain ⟨m1_0, m1_1⟩ := two GB.out.get
  obtain ⟨m2_0, m2_1⟩ := two ZB.out.get
  go_wp2_with fail
  clear t0 t1
  generalize hWe1 : (w2.alloc (.cells #[ga, gb] 26)) = We1 at *
  clear m1_0 m1_1 m2_0 m2_1
  refine (eqGm_k G_f.out.get.reads_c Z_f.out.get.reads_c FX.out).mono ?_
  rintro e w3 ⟨rfl, k⟩
  replace T_f := Lib.hid (T_f.out.below k)
  replace Z_f := Lib.hid (Z_f.out.below k)
  replace ZB := Lib.hid (ZB.out.below k)
  replace G_f := Lib.hid (G_f.out.below k)
  replace GB := Lib.hid (GB.out.below k)
  replace HB := Lib.hid (HB.out.trans (k.mono HB.out.size))
  replace HSZ := Lib.hid (And.intro HSZ.out k.size)
  clear k
  obtain ⟨m3_0, m3_1⟩ := two GB.out.get
  go_wp2_with fail
  clear m3_0 m3_1
  refine (markGm_k G_f.out.get FX.out (1) (by skip; omega) (by skip; omega)).mono ?_
  rintro e w4 ⟨rfl, hs, ht⟩
  clear G_f
  replace T_f := Lib.hid (T_f.out.turned ht (by have h := HSZ.out; omega))
  replace Z_f := Lib.hid (Z_f.out.turned ht (by have h := HSZ.out; omega))
  replace ZB := Lib.hid (ZB.out.turned ht (by have h := HSZ.out; omega))
  replace GB := Lib.hid (GB.out.turned ht (by have h := HSZ.out; omega))
  replace HB := Lib.hid (HB.out.trans ((ht.low (by have h := HSZ.out; omega)).mono (by have h := HSZ.out; omega)))
  replace HSZ := Lib.hid (And.intro HSZ.out ht.size)
  clear ht
  have G_f := Lib.hid hs.rg
  clear hs
  have hvx : decide (1 + (X0.v.length : Int) < 0) = false := by rw [decide_eq_false_iff_not]; have hbn := (FX.out).1; omega
  obtain ⟨m4_0, m4_1⟩ := two GB.out.get
  go_wp2_with fail
  clear m4_0 m4_1
  refine (heldGm_k (1) G_f.out.get.reads_c FX.out.1 (by skip; omega) (by skip; omega)).mono ?_
  rintro e w5 ⟨rfl, k⟩
  replace T_f := Lib.hid (T_f.out.below k)
  replace Z_f := Lib.hid (Z_f.out.below k)
  replace ZB := Lib.hid (ZB.out.below k)
  replace GB := Lib.hid (GB.out.below k)
  replace G_f := Lib.hid (G_f.out.below k)
  replace HB := Lib.hid (HB.out.trans (k.mono HB.out.size))
  replace HSZ := Lib.hid (And.intro HSZ.out k.size)
  clear k
  go_wp2_with fail
  refine (HI.out hs0 _  T_f.out.get ).mono ?_
  rintro e w6 ⟨⟨ha, hb, rfl, hs⟩, k⟩
  replace T_f := Lib.hid (T_f.out.below k)
  replace Z_f := Lib.hid (Z_f.out.below k)
  replace ZB := Lib.hid (ZB.out.below k)
  replace GB := Lib.hid (GB.out.below k)
  replace G_f := Lib.hid (G_f.out.below k)
  replace HB := Lib.hid (HB.out.trans (k.mono HB.out.size))
  replace HSZ := Lib.hid (And.intro HSZ.out k.size)
  clear k
  have H_f := Lib.hid hs.rg
  clear hs
  obtain ⟨o0, o1⟩ := (ResGm.reads_c H_f.out.get).one
  have t0 := sto o0
  have t1 := sto o1
  replace T_f := Lib.hid (T_f.out.more (.cells #[ha, hb] 26))
  replace Z_f := Lib.hid (Z_f.out.more (.cells #[ha, hb] 26))
  replace ZB := Lib.hid (ZB.out.more (.cells #[ha, hb] 26))
  replace GB := Lib.hid (GB.out.more (.cells #[ha, hb] 26))
  replace G_f := Lib.hid (G_f.out.more (.cells #[ha, hb] 26))
  replace H_f := Lib.hid (H_f.out.more (.cells #[ha, hb] 26))
  replace HB := Lib.hid (HB.out.alloc HB.out.size (.cells #[ha, hb] 26))
  replace HSZ := Lib.hid (And.intro HSZ.out (size1 w6 (.cells #[ha, hb] 26)))
  have HBX := Lib.hid (rg_new w6 #[ha, hb] 26)
  clear o0 o1
  obtain ⟨m5_0, m5_1⟩ := two HBX.out.get
  obtain ⟨m6_0, m6_1⟩ := two ZB.out.get
  go_wp2_with fail
  clear t0 t1
  generalize hWe3 : (w6.alloc (.cells #[ha, hb] 26)) = We3 at *
  clear m5_0 m5_1 m6_0 m6_1
  refine (eqGm_k H_f.out.get.reads_c Z_f.out.get.reads_c FX.out).mono ?_
  rintro e w7 ⟨rfl, k⟩
  replace T_f := Lib.hid (T_f.out.below k)
  replace Z_f := Lib.hid (Z_f.out.below k)
  replace ZB := Lib.hid (ZB.out.below k)
  replace GB := Lib.hid (GB.out.below k)
  replace G_f := Lib.hid (G_f.out.below k)
  replace H_f := Lib.hid (H_f.out.below k)
  replace HBX := Lib.hid (HBX.out.below k)
  replace HB := Lib.hid (HB.out.trans (k.mono HB.out.size))
  replace HSZ := Lib.hid (And.intro HSZ.out k.size)
  clear k
  obtain ⟨m7_0, m7_1⟩ := two GB.out.get
  go_wp2_with fail
  clear m7_0 m7_1
  refine (heldGm_k (1) G_f.out.get.reads_c FX.out.1 (by skip; omega) (by skip; omega)).mono ?_
  rintro e w8 ⟨rfl, k⟩
  replace T_f := Lib.hid (T_f.out.below k)
  replace Z_f := Lib.hid (Z_f.out.below k)
  replace ZB := Lib.hid (ZB.out.below k)
  replace GB := Lib.hid (GB.out.below k)
  replace G_f := Lib.hid (G_f.out.below k)
  replace H_f := Lib.hid (H_f.out.below k)
  replace HBX := Lib.hid (HBX.out.below k)
  replace HB := Lib.hid (HB.out.trans (k.mono HB.out.size))
  replace HSZ := Lib.hid (And.intro HSZ.out k.size)
  clear k
  go_wp2_with fail
  go_ret
  exact ⟨rfl, HB.out⟩
end Go.Proofs.YtambneapofaclaaGreatDoor
