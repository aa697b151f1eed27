/- FnExactExcessVector: the walk, from the two contracts in closed words (law.py). -/
import Derived.Test.YtpidlmmpejoeaaaGmA
import Derived.Test.YtpidlmmpejoeaaaLkRats
import Derived.Test.YtpidlmmpejoeaaaGRa
namespace Go.Proofs.Ytpidlmmpejoeaaa
open Go.RowKit
open Ve (R)
open Gm (G)
set_option maxRecDepth 100000 in
set_option maxHeartbeats 16000000 in
theorem fnExactExcessVector.walk_c (p0 : G) (p1 : List R) (X0 : List R) (hX : GmOk p0 → p1.length ≤ 1048576 → X0.length ≤ 1048576) (hS : GmOk p0 → p1.length ≤ 1048576 → ∀ (w : World) (u0a u0b u1 : Value), GmC w u0a u0b p0 → InRats w u1 p1 → Calls Try.prog 35 #[(.agg #[u0a, u0b]), u1] w fun e w' => (∃ y : Value, e = .returned (y) ∧ RsRats w.heap.size w'.heap.size w' y X0) ∧ Below w.heap.size w w') (hI : GmOk p0 → p1.length ≤ 1048576 → ∀ (w : World) (u0a u0b u1 : Value), GmC w u0a u0b p0 → InRats w u1 p1 → Calls Try.prog 36 #[(.agg #[u0a, u0b]), u1] w fun e w' => (∃ y : Value, e = .returned (y) ∧ RsRats w.heap.size w'.heap.size w' y X0) ∧ Below w.heap.size w w')
  (w : World) (u0a u0b u1 : Value) (n0 : GmLens p0) (n1 : p1.length ≤ 9223372036854775807) (h0 : GmC w u0a u0b p0) (h1 : InRats w u1 p1) :
  Calls Try.prog 9 #[(.agg #[u0a, u0b]), u1] w fun e w' => e = .returned (.bool true) ∧ Below w.heap.size w w' := by
 have HS := zH hS
 have HI := zH hI
 have HX := zH hX
 have N0 := zH n0
 have N1 := zH n1
 have B0 := zH (rg_new w #[u0a, u0b] 35)
 have A0 := zH (h0.rg.more (.cells #[u0a, u0b] 35))
 have A1 := zH (h1.rg.more (.cells #[u0a, u0b] 35))
 have HB : Hid (Below w.heap.size w (w.alloc (.cells #[u0a, u0b] 35))) := ((Below.refl w.heap.size w).alloc (by simp) (.cells #[u0a, u0b] 35))
 have HSZ : Hid ((w.alloc (.cells #[u0a, u0b] 35)).heap.size = w.heap.size + 1) := by show _ = _; exact size1 _ _
 clear hS hI hX n0 h0 n1 h1
 go_enter Try.func9, Try.ntmps9
 go_wp2_with fail
 generalize hW : (w.alloc (.cells #[u0a, u0b] 35)) = W0 at *
 refine (szGm_k A0.out.get N0.out 1048576 (by omega) (by omega)).mono ?_
 rintro e w1 ⟨⟨r0, rfl, r0l, r0u, r0e⟩, k⟩
 replace B0 := zH (B0.out.below k)
 replace A0 := zH (A0.out.below k)
 replace A1 := zH (A1.out.below k)
 replace HB := zH (HB.out.trans (k.mono HB.out.size))
 replace HSZ := zH (And.intro HSZ.out k.size)
 clear k
 by_cases r0n : r0 < 0
 ·
  have hb2 : decide (r0 < 0) = true := by rw [decide_eq_true_iff]; exact r0n
  go_wp2_with fail
  go_ret
  exact ⟨rfl, HB.out⟩
 ·
  have hb_r0 : decide (r0 < 0) = false := by rw [decide_eq_false_iff_not]; exact r0n
  go_wp2_with fail
  refine (szRats_k A1.out.get N1.out r0 (by omega) (by omega)).mono ?_
  rintro e w2 ⟨⟨r1, rfl, r1l, r1u, r1e⟩, k⟩
  replace B0 := zH (B0.out.below k)
  replace A0 := zH (A0.out.below k)
  replace A1 := zH (A1.out.below k)
  replace HB := zH (HB.out.trans (k.mono HB.out.size))
  replace HSZ := zH (And.intro HSZ.out k.size)
  clear k
  by_cases r1n : r1 < 0
  ·
   have hb2 : decide (r1 < 0) = true := by rw [decide_eq_true_iff]; exact r1n
   go_wp2_with fail
   go_ret
   exact ⟨rfl, HB.out⟩
  ·
   have hb_r1 : decide (r1 < 0) = false := by rw [decide_eq_false_iff_not]; exact r1n
   have F0 := zH (gmOk N0.out (by have := r0e (by omega); have := r1e (by omega); omega))
   have F1 := zH ((show p1.length ≤ 1048576 by have := r0e (by omega); have := r1e (by omega); omega))
   clear r0e r1e N0 N1
   have FX := zH (HX.out F0.out F1.out)
   clear HX
   obtain ⟨m1_0, m1_1⟩ := two B0.out.get
   go_wp2_with fail
   refine (toGm_k A0.out.get F0.out).mono ?_
   rintro e w3 ⟨⟨s0a, s0b, rfl, hs⟩, k⟩
   clear m1_0 m1_1
   replace B0 := zH (B0.out.below k)
   replace A0 := zH (A0.out.below k)
   replace A1 := zH (A1.out.below k)
   replace HB := zH (HB.out.trans (k.mono HB.out.size))
   replace HSZ := zH (And.intro HSZ.out k.size)
   clear k
   have S0_f := zH hs.rg
   clear hs
   go_wp2_with fail
   refine (toRats_k A1.out.get F1.out).mono ?_
   rintro e w4 ⟨⟨s1, rfl, hs⟩, k⟩
   replace B0 := zH (B0.out.below k)
   replace A0 := zH (A0.out.below k)
   replace A1 := zH (A1.out.below k)
   replace S0_f := zH (S0_f.out.below k)
   replace HB := zH (HB.out.trans (k.mono HB.out.size))
   replace HSZ := zH (And.intro HSZ.out k.size)
   clear k
   have S1_f := zH hs.rg
   clear hs
   go_wp2_with fail
   refine (HS.out F0.out F1.out _ _ _ _ S0_f.out.get.reads_c S1_f.out.get.reads).mono ?_
   rintro e w5 ⟨⟨z, rfl, hs⟩, k⟩
   replace B0 := zH (B0.out.below k)
   replace A0 := zH (A0.out.below k)
   replace A1 := zH (A1.out.below k)
   replace S0_f := zH (S0_f.out.below k)
   replace S1_f := zH (S1_f.out.below k)
   replace HB := zH (HB.out.trans (k.mono HB.out.size))
   replace HSZ := zH (And.intro HSZ.out k.size)
   clear k
   have Z_f := zH hs.rg
   clear hs
   clear S0_f S1_f
   clear HS
   obtain ⟨m2_0, m2_1⟩ := two B0.out.get
   go_wp2_with fail
   clear m2_0 m2_1
   refine (toGm_k A0.out.get F0.out).mono ?_
   rintro e w6 ⟨⟨x0a, x0b, rfl, hs⟩, k⟩
   replace B0 := zH (B0.out.below k)
   replace A0 := zH (A0.out.below k)
   replace A1 := zH (A1.out.below k)
   replace Z_f := zH (Z_f.out.below k)
   replace HB := zH (HB.out.trans (k.mono HB.out.size))
   replace HSZ := zH (And.intro HSZ.out k.size)
   clear k
   have X0_f := zH hs.rg
   clear hs
   obtain ⟨o0, o1⟩ := (ResGm.reads_c X0_f.out.get).one
   have t0 := sto o0
   have t1 := sto o1
   replace B0 := zH (B0.out.more (.cells #[x0a, x0b] 38))
   replace A0 := zH (A0.out.more (.cells #[x0a, x0b] 38))
   replace A1 := zH (A1.out.more (.cells #[x0a, x0b] 38))
   replace Z_f := zH (Z_f.out.more (.cells #[x0a, x0b] 38))
   replace X0_f := zH (X0_f.out.more (.cells #[x0a, x0b] 38))
   replace HB := zH (HB.out.alloc HB.out.size (.cells #[x0a, x0b] 38))
   replace HSZ := zH (And.intro HSZ.out (size1 w6 (.cells #[x0a, x0b] 38)))
   have XB0 := zH (rg_new w6 #[x0a, x0b] 38)
   clear o0 o1
   go_wp2_with fail
   clear t0 t1
   generalize hWx1 : (w6.alloc (.cells #[x0a, x0b] 38)) = Wx1 at *
   refine (toRats_k A1.out.get F1.out).mono ?_
   rintro e w7 ⟨⟨x1, rfl, hs⟩, k⟩
   replace B0 := zH (B0.out.below k)
   replace A0 := zH (A0.out.below k)
   replace A1 := zH (A1.out.below k)
   replace Z_f := zH (Z_f.out.below k)
   replace X0_f := zH (X0_f.out.below k)
   replace XB0 := zH (XB0.out.below k)
   replace HB := zH (HB.out.trans (k.mono HB.out.size))
   replace HSZ := zH (And.intro HSZ.out k.size)
   clear k
   have X1_f := zH hs.rg
   clear hs
   obtain ⟨m3_0, m3_1⟩ := two XB0.out.get
   go_wp2_with fail
   clear m3_0 m3_1
   refine (HI.out F0.out F1.out _ _ _ _ X0_f.out.get.reads_c X1_f.out.get.reads).mono ?_
   rintro e w8 ⟨⟨g, rfl, hs⟩, k⟩
   replace B0 := zH (B0.out.below k)
   replace A0 := zH (A0.out.below k)
   replace A1 := zH (A1.out.below k)
   replace Z_f := zH (Z_f.out.below k)
   replace X0_f := zH (X0_f.out.below k)
   replace XB0 := zH (XB0.out.below k)
   replace X1_f := zH (X1_f.out.below k)
   replace HB := zH (HB.out.trans (k.mono HB.out.size))
   replace HSZ := zH (And.intro HSZ.out k.size)
   clear k
   have G_f := zH hs.rg
   clear hs
   go_wp2_with fail
   refine (eqRats_k G_f.out.get.reads Z_f.out.get.reads FX.out).mono ?_
   rintro e w9 ⟨rfl, k⟩
   replace B0 := zH (B0.out.below k)
   replace A0 := zH (A0.out.below k)
   replace A1 := zH (A1.out.below k)
   replace Z_f := zH (Z_f.out.below k)
   replace X0_f := zH (X0_f.out.below k)
   replace XB0 := zH (XB0.out.below k)
   replace X1_f := zH (X1_f.out.below k)
   replace G_f := zH (G_f.out.below k)
   replace HB := zH (HB.out.trans (k.mono HB.out.size))
   replace HSZ := zH (And.intro HSZ.out k.size)
   clear k
   obtain ⟨K_0, hKe⟩ : ∃ K : World → Prop, K = fun w' => (Rg (fun w' => CellsAt w' w.heap.size #[u0a, u0b] 35) w.heap.size (w.heap.size + 1) w') ∧ (Rg (fun w' => GmC w' u0a u0b p0) 0 w.heap.size w') ∧ (Rg (fun w' => InRats w' u1 p1) 0 w.heap.size w') ∧ (Rg (fun w' => RsRats w4.heap.size w5.heap.size w' z X0) w4.heap.size w5.heap.size w') ∧ (Rg (fun w' => ResGm w5.heap.size w6.heap.size w' (.agg #[x0a, x0b]) p0) w5.heap.size w6.heap.size w') ∧ (Rg (fun w' => CellsAt w' w6.heap.size #[x0a, x0b] 38) w6.heap.size (w6.heap.size + 1) w') ∧ (Rg (fun w' => RsRats Wx1.heap.size w7.heap.size w' x1 p1) Wx1.heap.size w7.heap.size w') ∧ (Rg (fun w' => RsRats w7.heap.size w8.heap.size w' g X0) w7.heap.size w8.heap.size w') ∧ Below w.heap.size w w' ∧ w9.heap.size ≤ w'.heap.size := ⟨_, rfl⟩
   have KS_0 : Hid (Stable K_0) := by show Stable _; rw [hKe]; exact (stable_rg _ _ _).and ((stable_rg _ _ _).and ((stable_rg _ _ _).and ((stable_rg _ _ _).and ((stable_rg _ _ _).and ((stable_rg _ _ _).and ((stable_rg _ _ _).and ((stable_rg _ _ _).and ((stable_low w).and (fun w1 w2 hb h => Nat.le_trans h hb.size)))))))))
   have KC_0 : Hid (∀ w', K_0 w' → (Rg (fun w' => CellsAt w' w.heap.size #[u0a, u0b] 35) w.heap.size (w.heap.size + 1) w') ∧ (Rg (fun w' => GmC w' u0a u0b p0) 0 w.heap.size w') ∧ (Rg (fun w' => InRats w' u1 p1) 0 w.heap.size w') ∧ (Rg (fun w' => RsRats w4.heap.size w5.heap.size w' z X0) w4.heap.size w5.heap.size w') ∧ (Rg (fun w' => ResGm w5.heap.size w6.heap.size w' (.agg #[x0a, x0b]) p0) w5.heap.size w6.heap.size w') ∧ (Rg (fun w' => CellsAt w' w6.heap.size #[x0a, x0b] 38) w6.heap.size (w6.heap.size + 1) w') ∧ (Rg (fun w' => RsRats Wx1.heap.size w7.heap.size w' x1 p1) Wx1.heap.size w7.heap.size w') ∧ (Rg (fun w' => RsRats w7.heap.size w8.heap.size w' g X0) w7.heap.size w8.heap.size w') ∧ Below w.heap.size w w' ∧ w9.heap.size ≤ w'.heap.size) := by show ∀ w', K_0 w' → _; intro w' h; rw [hKe] at h; exact h
   have HK_0 : Hid (K_0 w9) := by show K_0 w9; rw [hKe]; exact ⟨B0.out, A0.out, A1.out, Z_f.out, X0_f.out, XB0.out, X1_f.out, G_f.out, HB.out, Nat.le_refl _⟩
   clear hKe HB B0 A0 A1 Z_f X0_f XB0 X1_f G_f
   have hin := KS_0.out.drew HK_0.out
   have Cell_0 := zH (fun w' (h : K_0 w') => (show w'.cell? ⟨w6.heap.size, 0, none⟩ = some x0a ∧ w'.cell? ⟨w6.heap.size, 1, none⟩ = some x0b ∧ w'.cell? ⟨w.heap.size, 0, none⟩ = some u0a ∧ w'.cell? ⟨w.heap.size, 1, none⟩ = some u0b ∧ K_0 w' from ⟨(two (KC_0.out w' h).2.2.2.2.2.1.get).1, (two (KC_0.out w' h).2.2.2.2.2.1.get).2, (two (KC_0.out w' h).1.get).1, (two (KC_0.out w' h).1.get).2, h⟩))
   go_upto_region 14 with fail
   go_cut [44] (fun v wx => v = .bool false ∧ K_0 wx)
   case first =>
    go_region_held3 (fun w' => w'.cell? ⟨w6.heap.size, 0, none⟩ = some x0a ∧ w'.cell? ⟨w6.heap.size, 1, none⟩ = some x0b ∧ w'.cell? ⟨w.heap.size, 0, none⟩ = some u0a ∧ w'.cell? ⟨w.heap.size, 1, none⟩ = some u0b ∧ K_0 w') (first | exact Cell_0.out _ (by assumption) | exact Cell_0.out _ (KS_0.out.drew (by assumption)))
     (first
      | (go_at_call 19; (with_reducible refine (calls_k KS_0.out (toGm_k ((KC_0.out _ (by first | assumption | exact KS_0.out.drew (by assumption))).2.1.get) F0.out) (by first | assumption | exact KS_0.out.drew (by assumption))).mono ?_); rintro e w' ⟨⟨y0, y1, rfl, hr3⟩, hk3, hin3⟩)
      | (go_at_call 21; refine (calls_k KS_0.out (eqGm_k ((KC_0.out _ (by first | assumption | exact KS_0.out.drew (by assumption))).2.2.2.2.1.get.reads_c) (ResGm.reads_c (by assumption)) F0.out) (by assumption)).mono ?_; rintro e w' ⟨rfl, hk4, hin4⟩))
    all_goals
     go_wp2_with fail
     go_meet
     exact ⟨rfl, by assumption⟩
   case rest =>
   clear hin HK_0 Cell_0
   obtain ⟨w10, rfl⟩ : ∃ q : World, q = wc := ⟨_, rfl⟩
   obtain ⟨rfl, hk7⟩ := hcut
   obtain ⟨q_B0, q_A0, q_A1, q_Z_f, q_X0_f, q_XB0, q_X1_f, q_G_f, hB, hsz⟩ := KC_0.out _ hk7
   have B0 := zH q_B0
   have A0 := zH q_A0
   have A1 := zH q_A1
   have Z_f := zH q_Z_f
   have X0_f := zH q_X0_f
   have XB0 := zH q_XB0
   have X1_f := zH q_X1_f
   have G_f := zH q_G_f
   have HB := zH hB
   replace HSZ := zH (And.intro HSZ.out hsz)
   clear hB hsz hk7 KC_0 KS_0 q_B0 q_A0 q_A1 q_Z_f q_X0_f q_XB0 q_X1_f q_G_f
   go_wp2_with fail
   refine (toRats_k A1.out.get F1.out).mono ?_
   rintro e w11 ⟨⟨v1, rfl, hs⟩, k⟩
   replace B0 := zH (B0.out.below k)
   replace A0 := zH (A0.out.below k)
   replace A1 := zH (A1.out.below k)
   replace Z_f := zH (Z_f.out.below k)
   replace X0_f := zH (X0_f.out.below k)
   replace XB0 := zH (XB0.out.below k)
   replace X1_f := zH (X1_f.out.below k)
   replace G_f := zH (G_f.out.below k)
   replace HB := zH (HB.out.trans (k.mono HB.out.size))
   replace HSZ := zH (And.intro HSZ.out k.size)
   clear k
   have V_f := zH hs.rg
   clear hs
   go_wp2_with fail
   refine (eqRats_k X1_f.out.get.reads V_f.out.get.reads F1.out).mono ?_
   rintro e w12 ⟨rfl, k⟩
   clear V_f
   replace B0 := zH (B0.out.below k)
   replace A0 := zH (A0.out.below k)
   replace A1 := zH (A1.out.below k)
   replace Z_f := zH (Z_f.out.below k)
   replace X0_f := zH (X0_f.out.below k)
   replace XB0 := zH (XB0.out.below k)
   replace X1_f := zH (X1_f.out.below k)
   replace G_f := zH (G_f.out.below k)
   replace HB := zH (HB.out.trans (k.mono HB.out.size))
   replace HSZ := zH (And.intro HSZ.out k.size)
   clear k
   obtain ⟨m4_0, m4_1⟩ := two XB0.out.get
   go_wp2_with fail
   clear m4_0 m4_1
   refine (markGm_k X0_f.out.get F0.out (1) (by skip; omega) (by skip; omega)).mono ?_
   rintro e w13 ⟨rfl, hs, ht⟩
   clear hs
   clear X0_f XB0
   replace B0 := zH (B0.out.turned ht (by have h := HSZ.out; omega))
   replace A0 := zH (A0.out.turned ht (by have h := HSZ.out; omega))
   replace A1 := zH (A1.out.turned ht (by have h := HSZ.out; omega))
   replace Z_f := zH (Z_f.out.turned ht (by have h := HSZ.out; omega))
   replace X1_f := zH (X1_f.out.turned ht (by have h := HSZ.out; omega))
   replace G_f := zH (G_f.out.turned ht (by have h := HSZ.out; omega))
   replace HB := zH (HB.out.trans ((ht.low (by have h := HSZ.out; omega)).mono (by have h := HSZ.out; omega)))
   replace HSZ := zH (And.intro HSZ.out ht.size)
   clear ht
   go_wp2_with fail
   refine (markRats_k X1_f.out.get F1.out (1 + (p0.v.length : Int)) (by have hbn0 := (F0.out).1; omega) (by have hbn0 := (F0.out).1; omega)).mono ?_
   rintro e w14 ⟨rfl, hs, ht⟩
   clear hs
   clear X1_f
   replace B0 := zH (B0.out.turned ht (by have h := HSZ.out; omega))
   replace A0 := zH (A0.out.turned ht (by have h := HSZ.out; omega))
   replace A1 := zH (A1.out.turned ht (by have h := HSZ.out; omega))
   replace Z_f := zH (Z_f.out.turned ht (by have h := HSZ.out; omega))
   replace G_f := zH (G_f.out.turned ht (by have h := HSZ.out; omega))
   replace HB := zH (HB.out.trans ((ht.low (by have h := HSZ.out; omega)).mono (by have h := HSZ.out; omega)))
   replace HSZ := zH (And.intro HSZ.out ht.size)
   clear ht
   have hkk : decide (1 + (p0.v.length : Int) + 2 * (p1.length : Int) < 0) = false := by rw [decide_eq_false_iff_not]; have hbn0 := (F0.out).1; have hbn1 := F1.out; omega
   go_wp2_with fail
   refine (eqRats_k G_f.out.get.reads Z_f.out.get.reads FX.out).mono ?_
   rintro e w15 ⟨rfl, k⟩
   replace B0 := zH (B0.out.below k)
   replace A0 := zH (A0.out.below k)
   replace A1 := zH (A1.out.below k)
   replace Z_f := zH (Z_f.out.below k)
   replace G_f := zH (G_f.out.below k)
   replace HB := zH (HB.out.trans (k.mono HB.out.size))
   replace HSZ := zH (And.intro HSZ.out k.size)
   clear k
   go_wp2_with fail
   refine (markRats_k G_f.out.get FX.out (1) (by skip; omega) (by skip; omega)).mono ?_
   rintro e w16 ⟨rfl, hs, ht⟩
   clear G_f
   replace B0 := zH (B0.out.turned ht (by have h := HSZ.out; omega))
   replace A0 := zH (A0.out.turned ht (by have h := HSZ.out; omega))
   replace A1 := zH (A1.out.turned ht (by have h := HSZ.out; omega))
   replace Z_f := zH (Z_f.out.turned ht (by have h := HSZ.out; omega))
   replace HB := zH (HB.out.trans ((ht.low (by have h := HSZ.out; omega)).mono (by have h := HSZ.out; omega)))
   replace HSZ := zH (And.intro HSZ.out ht.size)
   clear ht
   have G_f := zH hs.rg
   clear hs
   have hvx : decide (1 + 2 * (X0.length : Int) < 0) = false := by rw [decide_eq_false_iff_not]; have hbn := FX.out; omega
   go_wp2_with fail
   refine (heldRats_k (1) G_f.out.get.reads FX.out (by skip; omega) (by skip; omega)).mono ?_
   rintro e w17 ⟨rfl, k⟩
   replace B0 := zH (B0.out.below k)
   replace A0 := zH (A0.out.below k)
   replace A1 := zH (A1.out.below k)
   replace Z_f := zH (Z_f.out.below k)
   replace G_f := zH (G_f.out.below k)
   replace HB := zH (HB.out.trans (k.mono HB.out.size))
   replace HSZ := zH (And.intro HSZ.out k.size)
   clear k
   obtain ⟨m5_0, m5_1⟩ := two B0.out.get
   go_wp2_with fail
   refine (toGm_k A0.out.get F0.out).mono ?_
   rintro e w18 ⟨⟨q0a, q0b, rfl, hs⟩, k⟩
   clear m5_0 m5_1
   replace B0 := zH (B0.out.below k)
   replace A0 := zH (A0.out.below k)
   replace A1 := zH (A1.out.below k)
   replace Z_f := zH (Z_f.out.below k)
   replace G_f := zH (G_f.out.below k)
   replace HB := zH (HB.out.trans (k.mono HB.out.size))
   replace HSZ := zH (And.intro HSZ.out k.size)
   clear k
   have Q0_f := zH hs.rg
   clear hs
   go_wp2_with fail
   refine (toRats_k A1.out.get F1.out).mono ?_
   rintro e w19 ⟨⟨q1, rfl, hs⟩, k⟩
   replace B0 := zH (B0.out.below k)
   replace A0 := zH (A0.out.below k)
   replace A1 := zH (A1.out.below k)
   replace Z_f := zH (Z_f.out.below k)
   replace G_f := zH (G_f.out.below k)
   replace Q0_f := zH (Q0_f.out.below k)
   replace HB := zH (HB.out.trans (k.mono HB.out.size))
   replace HSZ := zH (And.intro HSZ.out k.size)
   clear k
   have Q1_f := zH hs.rg
   clear hs
   go_wp2_with fail
   refine (HI.out F0.out F1.out _ _ _ _ Q0_f.out.get.reads_c Q1_f.out.get.reads).mono ?_
   rintro e w20 ⟨⟨h, rfl, hs⟩, k⟩
   replace B0 := zH (B0.out.below k)
   replace A0 := zH (A0.out.below k)
   replace A1 := zH (A1.out.below k)
   replace Z_f := zH (Z_f.out.below k)
   replace G_f := zH (G_f.out.below k)
   replace Q0_f := zH (Q0_f.out.below k)
   replace Q1_f := zH (Q1_f.out.below k)
   replace HB := zH (HB.out.trans (k.mono HB.out.size))
   replace HSZ := zH (And.intro HSZ.out k.size)
   clear k
   have H_f := zH hs.rg
   clear hs
   clear Q0_f Q1_f
   go_wp2_with fail
   refine (eqRats_k H_f.out.get.reads Z_f.out.get.reads FX.out).mono ?_
   rintro e w21 ⟨rfl, k⟩
   replace B0 := zH (B0.out.below k)
   replace A0 := zH (A0.out.below k)
   replace A1 := zH (A1.out.below k)
   replace Z_f := zH (Z_f.out.below k)
   replace G_f := zH (G_f.out.below k)
   replace H_f := zH (H_f.out.below k)
   replace HB := zH (HB.out.trans (k.mono HB.out.size))
   replace HSZ := zH (And.intro HSZ.out k.size)
   clear k
   go_wp2_with fail
   refine (heldRats_k (1) G_f.out.get.reads FX.out (by skip; omega) (by skip; omega)).mono ?_
   rintro e w22 ⟨rfl, k⟩
   replace B0 := zH (B0.out.below k)
   replace A0 := zH (A0.out.below k)
   replace A1 := zH (A1.out.below k)
   replace Z_f := zH (Z_f.out.below k)
   replace G_f := zH (G_f.out.below k)
   replace H_f := zH (H_f.out.below k)
   replace HB := zH (HB.out.trans (k.mono HB.out.size))
   replace HSZ := zH (And.intro HSZ.out k.size)
   clear k
   go_wp2_with fail
   go_ret
   exact ⟨rfl, HB.out⟩
end Go.Proofs.Ytpidlmmpejoeaaa
