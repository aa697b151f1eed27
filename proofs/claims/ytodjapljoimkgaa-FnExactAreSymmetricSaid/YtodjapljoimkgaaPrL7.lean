/- FnExactNullPlayers: the walk, from the two contracts in closed words (law.py). -/
import Derived.Test.YtodjapljoimkgaaGmA
import Derived.Test.YtodjapljoimkgaaLkInts
namespace Go.Proofs.Ytodjapljoimkgaa
open Go.RowKit
open Gm (G)
set_option maxRecDepth 100000 in
set_option maxHeartbeats 16000000 in
theorem fnExactNullPlayers.walk_c (p0 : G) (X0 : List Int) (hX : GmOk p0 → X0.length ≤ 1048576) (hS : GmOk p0 → ∀ (w : World) (u0a u0b : Value), GmC w u0a u0b p0 → Calls Try.prog 34 #[(.agg #[u0a, u0b])] w fun e w' => (∃ y : Value, e = .returned (y) ∧ RsInts w.heap.size w'.heap.size w' y X0) ∧ Below w.heap.size w w') (hI : GmOk p0 → ∀ (w : World) (u0a u0b : Value), GmC w u0a u0b p0 → Calls Try.prog 35 #[(.agg #[u0a, u0b])] w fun e w' => (∃ y : Value, e = .returned (y) ∧ RsInts w.heap.size w'.heap.size w' y X0) ∧ Below w.heap.size w w')
    (w : World) (u0a u0b : Value) (n0 : GmLens p0) (h0 : GmC w u0a u0b p0) :
    Calls Try.prog 10 #[(.agg #[u0a, u0b])] w fun e w' => e = .returned (.bool true) ∧ Below w.heap.size w w' := by
  have HS := Lib.hid hS
  have HI := Lib.hid hI
  have HX := Lib.hid hX
  have N0 := Lib.hid n0
  have B0 := Lib.hid (rg_new w #[u0a, u0b] 34)
  have A0 := Lib.hid (h0.rg.more (.cells #[u0a, u0b] 34))
  have HB : Hid (Below w.heap.size w (w.alloc (.cells #[u0a, u0b] 34))) := ((Below.refl w.heap.size w).alloc (by simp) (.cells #[u0a, u0b] 34))
  have HSZ : Hid ((w.alloc (.cells #[u0a, u0b] 34)).heap.size = w.heap.size + 1) := by show _ = _; exact size1 _ _
  clear hS hI hX n0 h0
  go_enter Try.func10, Try.ntmps10
  go_wp2_with fail
  generalize hW : (w.alloc (.cells #[u0a, u0b] 34)) = W0 at *
  refine (szGm_k A0.out.get N0.out 1048576 (by omega) (by omega)).mono ?_
  rintro e w1 ⟨⟨r0, rfl, r0l, r0u, r0e⟩, k⟩
  replace B0 := Lib.hid (B0.out.below k)
  replace A0 := Lib.hid (A0.out.below k)
  replace HB := Lib.hid (HB.out.trans (k.mono HB.out.size))
  replace HSZ := Lib.hid (And.intro HSZ.out k.size)
  clear k
  by_cases r0n : r0 < 0
  · have hb2 : decide (r0 < 0) = true := by rw [decide_eq_true_iff]; exact r0n
    go_wp2_with fail
    go_ret
    exact ⟨rfl, HB.out⟩
  · have hb_r0 : decide (r0 < 0) = false := by rw [decide_eq_false_iff_not]; exact r0n
    have F0 := Lib.hid (gmOk N0.out (by have := r0e (by omega); omega))
    clear r0e N0
    have FX := Lib.hid (HX.out F0.out)
    clear HX
    obtain ⟨m1_0, m1_1⟩ := two B0.out.get
    go_wp2_with fail
    refine (toGm_k A0.out.get F0.out).mono ?_
    rintro e w2 ⟨⟨s0a, s0b, rfl, hs⟩, k⟩
    clear m1_0 m1_1
    replace B0 := Lib.hid (B0.out.below k)
    replace A0 := Lib.hid (A0.out.below k)
    replace HB := Lib.hid (HB.out.trans (k.mono HB.out.size))
    replace HSZ := Lib.hid (And.intro HSZ.out k.size)
    clear k
    have S0_f := Lib.hid hs.rg
    clear hs
    go_wp2_with fail
    refine (HS.out F0.out _ _ _ S0_f.out.get.reads_c).mono ?_
    rintro e w3 ⟨⟨z, rfl, hs⟩, k⟩
    replace B0 := Lib.hid (B0.out.below k)
    replace A0 := Lib.hid (A0.out.below k)
    replace S0_f := Lib.hid (S0_f.out.below k)
    replace HB := Lib.hid (HB.out.trans (k.mono HB.out.size))
    replace HSZ := Lib.hid (And.intro HSZ.out k.size)
    clear k
    have Z_f := Lib.hid hs.rg
    clear hs
    clear S0_f
    clear HS
    obtain ⟨m2_0, m2_1⟩ := two B0.out.get
    go_wp2_with fail
    clear m2_0 m2_1
    refine (toGm_k A0.out.get F0.out).mono ?_
    rintro e w4 ⟨⟨x0a, x0b, rfl, hs⟩, k⟩
    replace B0 := Lib.hid (B0.out.below k)
    replace A0 := Lib.hid (A0.out.below k)
    replace Z_f := Lib.hid (Z_f.out.below k)
    replace HB := Lib.hid (HB.out.trans (k.mono HB.out.size))
    replace HSZ := Lib.hid (And.intro HSZ.out k.size)
    clear k
    have X0_f := Lib.hid hs.rg
    clear hs
    obtain ⟨o0, o1⟩ := (ResGm.reads_c X0_f.out.get).one
    have t0 := sto o0
    have t1 := sto o1
    replace B0 := Lib.hid (B0.out.more (.cells #[x0a, x0b] 26))
    replace A0 := Lib.hid (A0.out.more (.cells #[x0a, x0b] 26))
    replace Z_f := Lib.hid (Z_f.out.more (.cells #[x0a, x0b] 26))
    replace X0_f := Lib.hid (X0_f.out.more (.cells #[x0a, x0b] 26))
    replace HB := Lib.hid (HB.out.alloc HB.out.size (.cells #[x0a, x0b] 26))
    replace HSZ := Lib.hid (And.intro HSZ.out (size1 w4 (.cells #[x0a, x0b] 26)))
    have XB0 := Lib.hid (rg_new w4 #[x0a, x0b] 26)
    clear o0 o1
    obtain ⟨m3_0, m3_1⟩ := two XB0.out.get
    go_wp2_with fail
    clear t0 t1
    generalize hWg : (w4.alloc (.cells #[x0a, x0b] 26)) = Wg at *
    clear m3_0 m3_1
    refine (HI.out F0.out _ _ _ X0_f.out.get.reads_c).mono ?_
    rintro e w5 ⟨⟨g, rfl, hs⟩, k⟩
    replace B0 := Lib.hid (B0.out.below k)
    replace A0 := Lib.hid (A0.out.below k)
    replace Z_f := Lib.hid (Z_f.out.below k)
    replace X0_f := Lib.hid (X0_f.out.below k)
    replace XB0 := Lib.hid (XB0.out.below k)
    replace HB := Lib.hid (HB.out.trans (k.mono HB.out.size))
    replace HSZ := Lib.hid (And.intro HSZ.out k.size)
    clear k
    have G_f := Lib.hid hs.rg
    clear hs
    go_wp2_with fail
    refine (eqInts_k G_f.out.get.reads Z_f.out.get.reads FX.out).mono ?_
    rintro e w6 ⟨rfl, k⟩
    replace B0 := Lib.hid (B0.out.below k)
    replace A0 := Lib.hid (A0.out.below k)
    replace Z_f := Lib.hid (Z_f.out.below k)
    replace X0_f := Lib.hid (X0_f.out.below k)
    replace XB0 := Lib.hid (XB0.out.below k)
    replace G_f := Lib.hid (G_f.out.below k)
    replace HB := Lib.hid (HB.out.trans (k.mono HB.out.size))
    replace HSZ := Lib.hid (And.intro HSZ.out k.size)
    clear k
    obtain ⟨K_0, hKe⟩ : ∃ K : World → Prop, K = fun w' => (Rg (fun w' => CellsAt w' w.heap.size #[u0a, u0b] 34) w.heap.size (w.heap.size + 1) w') ∧ (Rg (fun w' => GmC w' u0a u0b p0) 0 w.heap.size w') ∧ (Rg (fun w' => RsInts w2.heap.size w3.heap.size w' z X0) w2.heap.size w3.heap.size w') ∧ (Rg (fun w' => ResGm w3.heap.size w4.heap.size w' (.agg #[x0a, x0b]) p0) w3.heap.size w4.heap.size w') ∧ (Rg (fun w' => CellsAt w' w4.heap.size #[x0a, x0b] 26) w4.heap.size (w4.heap.size + 1) w') ∧ (Rg (fun w' => RsInts Wg.heap.size w5.heap.size w' g X0) Wg.heap.size w5.heap.size w') ∧ Below w.heap.size w w' ∧ w6.heap.size ≤ w'.heap.size := ⟨_, rfl⟩
    have KS_0 : Hid (Stable K_0) := by show Stable _; rw [hKe]; exact (stable_rg _ _ _).and ((stable_rg _ _ _).and ((stable_rg _ _ _).and ((stable_rg _ _ _).and ((stable_rg _ _ _).and ((stable_rg _ _ _).and ((stable_low w).and (fun w1 w2 hb h => Nat.le_trans h hb.size)))))))
    have KC_0 : Hid (∀ w', K_0 w' → (Rg (fun w' => CellsAt w' w.heap.size #[u0a, u0b] 34) w.heap.size (w.heap.size + 1) w') ∧ (Rg (fun w' => GmC w' u0a u0b p0) 0 w.heap.size w') ∧ (Rg (fun w' => RsInts w2.heap.size w3.heap.size w' z X0) w2.heap.size w3.heap.size w') ∧ (Rg (fun w' => ResGm w3.heap.size w4.heap.size w' (.agg #[x0a, x0b]) p0) w3.heap.size w4.heap.size w') ∧ (Rg (fun w' => CellsAt w' w4.heap.size #[x0a, x0b] 26) w4.heap.size (w4.heap.size + 1) w') ∧ (Rg (fun w' => RsInts Wg.heap.size w5.heap.size w' g X0) Wg.heap.size w5.heap.size w') ∧ Below w.heap.size w w' ∧ w6.heap.size ≤ w'.heap.size) := by show ∀ w', K_0 w' → _; intro w' h; rw [hKe] at h; exact h
    have HK_0 : Hid (K_0 w6) := by show K_0 w6; rw [hKe]; exact ⟨B0.out, A0.out, Z_f.out, X0_f.out, XB0.out, G_f.out, HB.out, Nat.le_refl _⟩
    clear hKe HB B0 A0 Z_f X0_f XB0 G_f
    have hin := KS_0.out.drew HK_0.out
    have Cell_0 := Lib.hid (fun w' (h : K_0 w') => (show w'.cell? ⟨w4.heap.size, 0, none⟩ = some x0a ∧ w'.cell? ⟨w4.heap.size, 1, none⟩ = some x0b ∧ w'.cell? ⟨w.heap.size, 0, none⟩ = some u0a ∧ w'.cell? ⟨w.heap.size, 1, none⟩ = some u0b ∧ K_0 w' from ⟨(two (KC_0.out w' h).2.2.2.2.1.get).1, (two (KC_0.out w' h).2.2.2.2.1.get).2, (two (KC_0.out w' h).1.get).1, (two (KC_0.out w' h).1.get).2, h⟩))
    go_upto_region 10 with fail
    go_cut [31] (fun v wx => v = .bool false ∧ K_0 wx)
    case first =>
      go_region_held3 (fun w' => w'.cell? ⟨w4.heap.size, 0, none⟩ = some x0a ∧ w'.cell? ⟨w4.heap.size, 1, none⟩ = some x0b ∧ w'.cell? ⟨w.heap.size, 0, none⟩ = some u0a ∧ w'.cell? ⟨w.heap.size, 1, none⟩ = some u0b ∧ K_0 w') (first | exact Cell_0.out _ (by assumption) | exact Cell_0.out _ (KS_0.out.drew (by assumption)))
        (first
          | (go_at_call 29; (with_reducible refine (calls_k KS_0.out (toGm_k ((KC_0.out _ (by first | assumption | exact KS_0.out.drew (by assumption))).2.1.get) F0.out) (by first | assumption | exact KS_0.out.drew (by assumption))).mono ?_); rintro e w' ⟨⟨y0, y1, rfl, hr3⟩, hk3, hin3⟩)
          | (go_at_call 30; refine (calls_k KS_0.out (eqGm_k ((KC_0.out _ (by first | assumption | exact KS_0.out.drew (by assumption))).2.2.2.1.get.reads_c) (ResGm.reads_c (by assumption)) F0.out) (by assumption)).mono ?_; rintro e w' ⟨rfl, hk4, hin4⟩))
      all_goals
        go_wp2_with fail
        go_meet
        exact ⟨rfl, by assumption⟩
    case rest =>
    clear hin HK_0 Cell_0
    obtain ⟨w7, rfl⟩ : ∃ q : World, q = wc := ⟨_, rfl⟩
    obtain ⟨rfl, hk7⟩ := hcut
    obtain ⟨q_B0, q_A0, q_Z_f, q_X0_f, q_XB0, q_G_f, hB, hsz⟩ := KC_0.out _ hk7
    have B0 := Lib.hid q_B0
    have A0 := Lib.hid q_A0
    have Z_f := Lib.hid q_Z_f
    have X0_f := Lib.hid q_X0_f
    have XB0 := Lib.hid q_XB0
    have G_f := Lib.hid q_G_f
    have HB := Lib.hid hB
    replace HSZ := Lib.hid (And.intro HSZ.out hsz)
    clear hB hsz hk7 KC_0 KS_0 q_B0 q_A0 q_Z_f q_X0_f q_XB0 q_G_f
    obtain ⟨m4_0, m4_1⟩ := two XB0.out.get
    go_wp2_with fail
    clear m4_0 m4_1
    refine (markGm_k X0_f.out.get F0.out (1) (by skip; omega) (by skip; omega)).mono ?_
    rintro e w8 ⟨rfl, hs, ht⟩
    clear hs
    clear X0_f XB0
    replace B0 := Lib.hid (B0.out.turned ht (by have h := HSZ.out; omega))
    replace A0 := Lib.hid (A0.out.turned ht (by have h := HSZ.out; omega))
    replace Z_f := Lib.hid (Z_f.out.turned ht (by have h := HSZ.out; omega))
    replace G_f := Lib.hid (G_f.out.turned ht (by have h := HSZ.out; omega))
    replace HB := Lib.hid (HB.out.trans ((ht.low (by have h := HSZ.out; omega)).mono (by have h := HSZ.out; omega)))
    replace HSZ := Lib.hid (And.intro HSZ.out ht.size)
    clear ht
    have hkk : decide (1 + (p0.v.length : Int) < 0) = false := by rw [decide_eq_false_iff_not]; have hbn0 := (F0.out).1; omega
    go_wp2_with fail
    refine (eqInts_k G_f.out.get.reads Z_f.out.get.reads FX.out).mono ?_
    rintro e w9 ⟨rfl, k⟩
    replace B0 := Lib.hid (B0.out.below k)
    replace A0 := Lib.hid (A0.out.below k)
    replace Z_f := Lib.hid (Z_f.out.below k)
    replace G_f := Lib.hid (G_f.out.below k)
    replace HB := Lib.hid (HB.out.trans (k.mono HB.out.size))
    replace HSZ := Lib.hid (And.intro HSZ.out k.size)
    clear k
    go_wp2_with fail
    refine (markInts_k G_f.out.get FX.out (1) (by skip; omega) (by skip; omega)).mono ?_
    rintro e w10 ⟨rfl, hs, ht⟩
    clear G_f
    replace B0 := Lib.hid (B0.out.turned ht (by have h := HSZ.out; omega))
    replace A0 := Lib.hid (A0.out.turned ht (by have h := HSZ.out; omega))
    replace Z_f := Lib.hid (Z_f.out.turned ht (by have h := HSZ.out; omega))
    replace HB := Lib.hid (HB.out.trans ((ht.low (by have h := HSZ.out; omega)).mono (by have h := HSZ.out; omega)))
    replace HSZ := Lib.hid (And.intro HSZ.out ht.size)
    clear ht
    have G_f := Lib.hid hs.rg
    clear hs
    have hvx : decide (1 + (X0.length : Int) < 0) = false := by rw [decide_eq_false_iff_not]; have hbn := FX.out; omega
    go_wp2_with fail
    refine (heldInts_k (1) G_f.out.get.reads FX.out (by skip; omega) (by skip; omega)).mono ?_
    rintro e w11 ⟨rfl, k⟩
    replace B0 := Lib.hid (B0.out.below k)
    replace A0 := Lib.hid (A0.out.below k)
    replace Z_f := Lib.hid (Z_f.out.below k)
    replace G_f := Lib.hid (G_f.out.below k)
    replace HB := Lib.hid (HB.out.trans (k.mono HB.out.size))
    replace HSZ := Lib.hid (And.intro HSZ.out k.size)
    clear k
    obtain ⟨m5_0, m5_1⟩ := two B0.out.get
    go_wp2_with fail
    refine (toGm_k A0.out.get F0.out).mono ?_
    rintro e w12 ⟨⟨q0a, q0b, rfl, hs⟩, k⟩
    clear m5_0 m5_1
    replace B0 := Lib.hid (B0.out.below k)
    replace A0 := Lib.hid (A0.out.below k)
    replace Z_f := Lib.hid (Z_f.out.below k)
    replace G_f := Lib.hid (G_f.out.below k)
    replace HB := Lib.hid (HB.out.trans (k.mono HB.out.size))
    replace HSZ := Lib.hid (And.intro HSZ.out k.size)
    clear k
    have Q0_f := Lib.hid hs.rg
    clear hs
    go_wp2_with fail
    refine (HI.out F0.out _ _ _ Q0_f.out.get.reads_c).mono ?_
    rintro e w13 ⟨⟨h, rfl, hs⟩, k⟩
    replace B0 := Lib.hid (B0.out.below k)
    replace A0 := Lib.hid (A0.out.below k)
    replace Z_f := Lib.hid (Z_f.out.below k)
    replace G_f := Lib.hid (G_f.out.below k)
    replace Q0_f := Lib.hid (Q0_f.out.below k)
    replace HB := Lib.hid (HB.out.trans (k.mono HB.out.size))
    replace HSZ := Lib.hid (And.intro HSZ.out k.size)
    clear k
    have H_f := Lib.hid hs.rg
    clear hs
    clear Q0_f
    go_wp2_with fail
    refine (eqInts_k H_f.out.get.reads Z_f.out.get.reads FX.out).mono ?_
    rintro e w14 ⟨rfl, k⟩
    replace B0 := Lib.hid (B0.out.below k)
    replace A0 := Lib.hid (A0.out.below k)
    replace Z_f := Lib.hid (Z_f.out.below k)
    replace G_f := Lib.hid (G_f.out.below k)
    replace H_f := Lib.hid (H_f.out.below k)
    replace HB := Lib.hid (HB.out.trans (k.mono HB.out.size))
    replace HSZ := Lib.hid (And.intro HSZ.out k.size)
    clear k
    go_wp2_with fail
    refine (heldInts_k (1) G_f.out.get.reads FX.out (by skip; omega) (by skip; omega)).mono ?_
    rintro e w15 ⟨rfl, k⟩
    replace B0 := Lib.hid (B0.out.below k)
    replace A0 := Lib.hid (A0.out.below k)
    replace Z_f := Lib.hid (Z_f.out.below k)
    replace G_f := Lib.hid (G_f.out.below k)
    replace H_f := Lib.hid (H_f.out.below k)
    replace HB := Lib.hid (HB.out.trans (k.mono HB.out.size))
    replace HSZ := Lib.hid (And.intro HSZ.out k.size)
    clear k
    go_wp2_with fail
    go_ret
    exact ⟨rfl, HB.out⟩
end Go.Proofs.Ytodjapljoimkgaa
