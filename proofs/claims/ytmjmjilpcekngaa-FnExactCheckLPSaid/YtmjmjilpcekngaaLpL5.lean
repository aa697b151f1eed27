/- FnExactCheckLP: the walk, from the two contracts. -/
import Derived.Test.YtmjmjilpcekngaaGLk
namespace Go.Proofs.Ytmjmjilpcekngaa
open Go.RowKit
open Ve (R)
open Lp (P Res)
set_option maxRecDepth 100000 in
set_option maxHeartbeats 4000000 in
theorem fnExactCheckLP.walk_c (g : P → Res → Bool) (hS : LpResC 24 g) (hI : LpResC 26 g) (w : World) (u0a u0b u0c u1a u1b u1c u1d u1e u1f u1g : Value) (p0 : P) (p1 : Res) (n0 : LpLens p0) (n1 : ResLens p1) (h0 : LpC w u0a u0b u0c p0) (h1 : ResC w u1a u1b u1c u1d u1e u1f u1g p1) (hx : (Lit.int .i64 p1.status).wf = true) :
  Calls Try.prog 5 #[.agg #[u0a, u0b, u0c], .agg #[u1a, u1b, u1c, u1d, u1e, u1f, u1g]] w fun e w' => e = .returned (.bool true) ∧ Below w.heap.size w w' := by
 obtain ⟨gp, hgp⟩ : ∃ gp, g p0 p1 = gp := ⟨_, rfl⟩
 have HS := zH (fun (f0 : LpFits p0) (f1 : ResFits p1) (w : World) (v0 v1 v2 v3 v4 v5 v6 v7 v8 v9 : Value) c0 c1 => hgp ▸ hS w v0 v1 v2 v3 v4 v5 v6 v7 v8 v9 p0 p1 f0 f1 hx c0 c1)
 have HI := zH (fun (f0 : LpFits p0) (f1 : ResFits p1) (w : World) (v0 v1 v2 v3 v4 v5 v6 v7 v8 v9 : Value) c0 c1 => hgp ▸ hI w v0 v1 v2 v3 v4 v5 v6 v7 v8 v9 p0 p1 f0 f1 hx c0 c1)
 obtain ⟨K, hs, hk, hk0⟩ := law_start2 w #[u0a, u0b, u0c] #[u1a, u1b, u1c, u1d, u1e, u1f, u1g] 45 55 (fun w' => LpC w' u0a u0b u0c p0 ∧ ResC w' u1a u1b u1c u1d u1e u1f u1g p1) ((stable_lp u0a u0b u0c p0).and (stable_res u1a u1b u1c u1d u1e u1f u1g p1)) ⟨h0, h1⟩
 have KS := zH hs
 have KC := zH hk
 have HK0 := zH hk0
 have N0 := zH n0
 have N1 := zH n1
 have Cell := zH (fun w' (h : K w') => (show w'.cell? ⟨w.heap.size, 0, none⟩ = some u0a ∧ w'.cell? ⟨w.heap.size, 1, none⟩ = some u0b ∧ w'.cell? ⟨w.heap.size, 2, none⟩ = some u0c ∧ w'.cell? ⟨w.heap.size + 1, 0, none⟩ = some u1a ∧ w'.cell? ⟨w.heap.size + 1, 1, none⟩ = some u1b ∧ w'.cell? ⟨w.heap.size + 1, 2, none⟩ = some u1c ∧ w'.cell? ⟨w.heap.size + 1, 3, none⟩ = some u1d ∧ w'.cell? ⟨w.heap.size + 1, 4, none⟩ = some u1e ∧ w'.cell? ⟨w.heap.size + 1, 5, none⟩ = some u1f ∧ w'.cell? ⟨w.heap.size + 1, 6, none⟩ = some u1g ∧ K w' from ⟨(three (hk w' h).1).1, (three (hk w' h).1).2.1, (three (hk w' h).1).2.2, ((seven (hk w' h).2.1).1).1, ((seven (hk w' h).2.1).1).2.1, ((seven (hk w' h).2.1).1).2.2.1, ((seven (hk w' h).2.1).1).2.2.2.1, ((seven (hk w' h).2.1).1).2.2.2.2.1, ((seven (hk w' h).2.1).1).2.2.2.2.2.1, ((seven (hk w' h).2.1).1).2.2.2.2.2.2, h⟩))
 clear hS hI hgp hs hk hk0 n0 n1 h0 h1
 go_enter Try.func5, Try.ntmps5
 go_wp2_with fail
 refine (szLP_c (KC.out _ HK0.out).2.2.1.1 N0.out 1048576 (by omega) (by omega)).mono ?_
 rintro e w1 ⟨⟨r0, rfl, ha0, ha1, ha2⟩, k1⟩
 have HK1 := zH (KS.out _ _ k1 HK0.out)
 clear k1
 obtain ⟨m0, m1, m2, q0, q1, q2, q3, q4, q5, q6, _⟩ := Cell.out _ HK1.out
 by_cases hneg : r0 < 0
 ·
  have hb2 : decide (r0 < 0) = true := by rw [decide_eq_true_iff]; exact hneg
  go_wp2_with fail
  go_ret
  exact ⟨rfl, (KC.out _ HK1.out).2.2.2⟩
 ·
  have hb2 : decide (r0 < 0) = false := by rw [decide_eq_false_iff_not]; exact hneg
  have F0 := zH (lpFits (p := p0) (by have := ha2 (by omega); omega))
  clear ha2
  go_wp2_with fail
  refine (szRes_c (KC.out _ HK1.out).2.2.1.2 N1.out r0 (by omega) ha1).mono ?_
  rintro e w2 ⟨⟨r1, rfl, hc0, hc1, hc2⟩, k2⟩
  have HK2 := zH (KS.out _ _ k2 HK1.out)
  clear m0 m1 m2 q0 q1 q2 q3 q4 q5 q6
  clear k2
  by_cases hneg2 : r1 < 0
  ·
   have hb3 : decide (r1 < 0) = true := by rw [decide_eq_true_iff]; exact hneg2
   go_wp2_with fail
   go_ret
   exact ⟨rfl, (KC.out _ HK2.out).2.2.2⟩
  ·
   have hb3 : decide (r1 < 0) = false := by rw [decide_eq_false_iff_not]; exact hneg2
   have F1 := zH (resFits (r := p1) (by have := hc2 (by omega); omega))
   clear hc2 N0 N1 HK0 HK1
   have hin := KS.out.drew HK2.out
   go_upto_region 8 with fail
   go_cut [6] (fun v wx => v = .bool gp ∧ K wx)
   case first =>
    go_region_held3 (fun w' => w'.cell? ⟨w.heap.size, 0, none⟩ = some u0a ∧ w'.cell? ⟨w.heap.size, 1, none⟩ = some u0b ∧ w'.cell? ⟨w.heap.size, 2, none⟩ = some u0c ∧ w'.cell? ⟨w.heap.size + 1, 0, none⟩ = some u1a ∧ w'.cell? ⟨w.heap.size + 1, 1, none⟩ = some u1b ∧ w'.cell? ⟨w.heap.size + 1, 2, none⟩ = some u1c ∧ w'.cell? ⟨w.heap.size + 1, 3, none⟩ = some u1d ∧ w'.cell? ⟨w.heap.size + 1, 4, none⟩ = some u1e ∧ w'.cell? ⟨w.heap.size + 1, 5, none⟩ = some u1f ∧ w'.cell? ⟨w.heap.size + 1, 6, none⟩ = some u1g ∧ K w') (first | exact Cell.out _ (by assumption) | exact Cell.out _ (KS.out.drew (by assumption)))
     (first
      | (go_at_call 24; refine (calls_k KS.out (HS.out F0.out F1.out _ _ _ _ _ _ _ _ _ _ _ (by first | assumption | exact LpC.up (by assumption) (by assumption)) (by first | assumption | exact ResC.up (by assumption) (by assumption))) (by first | assumption | exact KS.out.drew (by assumption))).mono ?_; rintro e w' ⟨rfl, hk5, hin5⟩)
      | ((go_at_call 19; (with_reducible refine (calls_k KS.out (toLP_c ((KC.out _ (by first | assumption | exact KS.out.drew (by assumption))).2.2.1.1) F0.out) (by first | assumption | exact KS.out.drew (by assumption))).mono ?_); rintro e w' ⟨⟨s0a, s0b, s0c, rfl, hr3, _⟩, hk3, hin3⟩))
      | ((go_at_call 25; (with_reducible refine (calls_k KS.out (toRes_c ((KC.out _ (by first | assumption | exact KS.out.drew (by assumption))).2.2.1.2) F1.out) (by first | assumption | exact KS.out.drew (by assumption))).mono ?_); rintro e w' ⟨⟨s1a, s1b, s1c, s1d, s1e, s1f, s1g, rfl, hr4, _⟩, hk4, hin4⟩)))
    all_goals
     go_wp2_with fail
     go_meet
     exact ⟨rfl, by assumption⟩
   case rest =>
    obtain ⟨w3, rfl⟩ : ∃ w3 : World, w3 = wc := ⟨_, rfl⟩
    obtain ⟨rfl, hk3⟩ := hcut
    have HK3 := zH hk3
    clear hk3 hin HS HK2
    obtain ⟨m0, m1, m2, q0, q1, q2, q3, q4, q5, q6, _⟩ := Cell.out _ HK3.out
    go_wp2_with fail
    refine (toLP_c (KC.out _ HK3.out).2.2.1.1 F0.out).mono ?_
    rintro e w4 ⟨⟨x0a, x0b, x0c, rfl, hx, _⟩, k4⟩
    obtain ⟨o0, o1, o2⟩ := hx.one
    have t0 := sto o0
    have t1 := sto o1
    have t2 := sto o2
    clear o0 o1 o2
    obtain ⟨K1, hs, hk, hk0⟩ := law_more KS.out #[x0a, x0b, x0c] 28 (fun w' => LpC w' x0a x0b x0c p0) (stable_lp x0a x0b x0c p0) (KS.out _ _ k4 HK3.out) hx
    have KS1 := zH hs
    have KC1 := zH hk
    have HK4 := zH hk0
    clear hs hk hk0 hx k4 m0 m1 m2 q0 q1 q2 q3 q4 q5 q6
    obtain ⟨m0, m1, m2, q0, q1, q2, q3, q4, q5, q6, _⟩ := Cell.out _ (KC1.out _ HK4.out).1
    go_wp2_with fail
    refine (toRes_c (KC.out _ (KC1.out _ HK4.out).1).2.2.1.2 F1.out).mono ?_
    rintro e w5 ⟨⟨x1a, x1b, x1c, x1d, x1e, x1f, x1g, rfl, hx, _⟩, k5⟩
    clear t0 t1 t2
    obtain ⟨o0, o1, o2, o3, o4, o5, o6⟩ := hx.one
    have t0 := sto o0
    have t1 := sto o1
    have t2 := sto o2
    have t3 := sto o3
    have t4 := sto o4
    have t5 := sto o5
    have t6 := sto o6
    clear o0 o1 o2 o3 o4 o5 o6
    obtain ⟨K2, hs, hk, hk0⟩ := law_more KS1.out #[x1a, x1b, x1c, x1d, x1e, x1f, x1g] 34 (fun w' => ResC w' x1a x1b x1c x1d x1e x1f x1g p1) (stable_res x1a x1b x1c x1d x1e x1f x1g p1) (KS1.out _ _ k5 HK4.out) hx
    have KS2 := zH hs
    have HK5 := zH hk0
    have KC2 := zH (fun w' (h : K2 w') => (show K w' ∧ (CellsAt w' w4.heap.size #[x0a, x0b, x0c] 28 ∧ LpC w' x0a x0b x0c p0) ∧ CellsAt w' w5.heap.size #[x1a, x1b, x1c, x1d, x1e, x1f, x1g] 34 ∧ ResC w' x1a x1b x1c x1d x1e x1f x1g p1 from ⟨(KC1.out _ (hk _ h).1).1, (KC1.out _ (hk _ h).1).2, (hk _ h).2⟩))
    clear hs hk hk0 hx k5 HK3 HK4 KS1 KC1 m0 m1 m2 q0 q1 q2 q3 q4 q5 q6
    obtain ⟨m0, m1, m2⟩ := three (KC2.out _ HK5.out).2.1.1
    obtain ⟨q0, q1, q2, q3, q4, q5, q6⟩ := (seven (KC2.out _ HK5.out).2.2.1).1
    go_wp2_with fail
    refine (HI.out F0.out F1.out _ _ _ _ _ _ _ _ _ _ _ (KC2.out _ HK5.out).2.1.2 (KC2.out _ HK5.out).2.2.2).mono ?_
    rintro e w6 ⟨rfl, k6⟩
    clear t0 t1 t2 t3 t4 t5 t6
    have hin6 := KS2.out _ _ k6 HK5.out
    have hne := ne_selfb gp
    clear k6 HK5 HI m0 m1 m2 q0 q1 q2 q3 q4 q5 q6
    have Cell1 := zH (fun w' (h : K2 w') => (show w'.cell? ⟨w4.heap.size, 0, none⟩ = some x0a ∧ w'.cell? ⟨w4.heap.size, 1, none⟩ = some x0b ∧ w'.cell? ⟨w4.heap.size, 2, none⟩ = some x0c ∧ w'.cell? ⟨w.heap.size, 0, none⟩ = some u0a ∧ w'.cell? ⟨w.heap.size, 1, none⟩ = some u0b ∧ w'.cell? ⟨w.heap.size, 2, none⟩ = some u0c ∧ K2 w' from ⟨(three (KC2.out w' h).2.1.1).1, (three (KC2.out w' h).2.1.1).2.1, (three (KC2.out w' h).2.1.1).2.2, (three (KC.out w' (KC2.out w' h).1).1).1, (three (KC.out w' (KC2.out w' h).1).1).2.1, (three (KC.out w' (KC2.out w' h).1).1).2.2, h⟩))
    have Cell2 := zH (fun w' (h : K2 w') => (show w'.cell? ⟨w5.heap.size, 0, none⟩ = some x1a ∧ w'.cell? ⟨w5.heap.size, 1, none⟩ = some x1b ∧ w'.cell? ⟨w5.heap.size, 2, none⟩ = some x1c ∧ w'.cell? ⟨w5.heap.size, 3, none⟩ = some x1d ∧ w'.cell? ⟨w5.heap.size, 4, none⟩ = some x1e ∧ w'.cell? ⟨w5.heap.size, 5, none⟩ = some x1f ∧ w'.cell? ⟨w5.heap.size, 6, none⟩ = some x1g ∧ w'.cell? ⟨w.heap.size + 1, 0, none⟩ = some u1a ∧ w'.cell? ⟨w.heap.size + 1, 1, none⟩ = some u1b ∧ w'.cell? ⟨w.heap.size + 1, 2, none⟩ = some u1c ∧ w'.cell? ⟨w.heap.size + 1, 3, none⟩ = some u1d ∧ w'.cell? ⟨w.heap.size + 1, 4, none⟩ = some u1e ∧ w'.cell? ⟨w.heap.size + 1, 5, none⟩ = some u1f ∧ w'.cell? ⟨w.heap.size + 1, 6, none⟩ = some u1g ∧ K2 w' from ⟨((seven (KC2.out w' h).2.2.1).1).1, ((seven (KC2.out w' h).2.2.1).1).2.1, ((seven (KC2.out w' h).2.2.1).1).2.2.1, ((seven (KC2.out w' h).2.2.1).1).2.2.2.1, ((seven (KC2.out w' h).2.2.1).1).2.2.2.2.1, ((seven (KC2.out w' h).2.2.1).1).2.2.2.2.2.1, ((seven (KC2.out w' h).2.2.1).1).2.2.2.2.2.2, ((seven (KC.out w' (KC2.out w' h).1).2.1).1).1, ((seven (KC.out w' (KC2.out w' h).1).2.1).1).2.1, ((seven (KC.out w' (KC2.out w' h).1).2.1).1).2.2.1, ((seven (KC.out w' (KC2.out w' h).1).2.1).1).2.2.2.1, ((seven (KC.out w' (KC2.out w' h).1).2.1).1).2.2.2.2.1, ((seven (KC.out w' (KC2.out w' h).1).2.1).1).2.2.2.2.2.1, ((seven (KC.out w' (KC2.out w' h).1).2.1).1).2.2.2.2.2.2, h⟩))
    go_upto_region 14 with fail
    go_cut [39] (fun v wx => v = .bool false ∧ K2 wx)
    case first =>
     go_region_held3 (fun w' => w'.cell? ⟨w4.heap.size, 0, none⟩ = some x0a ∧ w'.cell? ⟨w4.heap.size, 1, none⟩ = some x0b ∧ w'.cell? ⟨w4.heap.size, 2, none⟩ = some x0c ∧ w'.cell? ⟨w.heap.size, 0, none⟩ = some u0a ∧ w'.cell? ⟨w.heap.size, 1, none⟩ = some u0b ∧ w'.cell? ⟨w.heap.size, 2, none⟩ = some u0c ∧ K2 w') (first | exact Cell1.out _ (by assumption) | exact Cell1.out _ (KS2.out.drew (by assumption)))
      (first
       | (go_at_call 19; (with_reducible refine (calls_k KS2.out (toLP_c ((KC.out _ (KC2.out _ (by first | assumption | exact KS2.out.drew (by assumption))).1).2.2.1.1) F0.out) (by first | assumption | exact KS2.out.drew (by assumption))).mono ?_); rintro e w' ⟨⟨y0a, y0b, y0c, rfl, hr3, _⟩, hk3, hin3⟩)
       | (go_at_call 21; refine (calls_k KS2.out (eqLP_c ((KC2.out _ (by first | assumption | exact KS2.out.drew (by assumption))).2.1.2) (by assumption) F0.out) (by assumption)).mono ?_; rintro e w' ⟨rfl, hk4, hin4⟩))
     all_goals
      go_wp2_with fail
      go_meet
      exact ⟨rfl, by assumption⟩
    case rest =>
    clear hin6
    obtain ⟨w7, rfl⟩ : ∃ w7 : World, w7 = wc := ⟨_, rfl⟩
    obtain ⟨rfl, hin6⟩ := hcut
    go_upto_region 16 with fail
    go_cut [44] (fun v wx => v = .bool false ∧ K2 wx)
    case first =>
     go_region_held3 (fun w' => w'.cell? ⟨w5.heap.size, 0, none⟩ = some x1a ∧ w'.cell? ⟨w5.heap.size, 1, none⟩ = some x1b ∧ w'.cell? ⟨w5.heap.size, 2, none⟩ = some x1c ∧ w'.cell? ⟨w5.heap.size, 3, none⟩ = some x1d ∧ w'.cell? ⟨w5.heap.size, 4, none⟩ = some x1e ∧ w'.cell? ⟨w5.heap.size, 5, none⟩ = some x1f ∧ w'.cell? ⟨w5.heap.size, 6, none⟩ = some x1g ∧ w'.cell? ⟨w.heap.size + 1, 0, none⟩ = some u1a ∧ w'.cell? ⟨w.heap.size + 1, 1, none⟩ = some u1b ∧ w'.cell? ⟨w.heap.size + 1, 2, none⟩ = some u1c ∧ w'.cell? ⟨w.heap.size + 1, 3, none⟩ = some u1d ∧ w'.cell? ⟨w.heap.size + 1, 4, none⟩ = some u1e ∧ w'.cell? ⟨w.heap.size + 1, 5, none⟩ = some u1f ∧ w'.cell? ⟨w.heap.size + 1, 6, none⟩ = some u1g ∧ K2 w') (first | exact Cell2.out _ (by assumption) | exact Cell2.out _ (KS2.out.drew (by assumption)))
      (first
       | (go_at_call 25; (with_reducible refine (calls_k KS2.out (toRes_c ((KC.out _ (KC2.out _ (by first | assumption | exact KS2.out.drew (by assumption))).1).2.2.1.2) F1.out) (by first | assumption | exact KS2.out.drew (by assumption))).mono ?_); rintro e w' ⟨⟨y1a, y1b, y1c, y1d, y1e, y1f, y1g, rfl, hr3, _⟩, hk3, hin3⟩)
       | (go_at_call 27; refine (calls_k KS2.out (eqRes_c ((KC2.out _ (by first | assumption | exact KS2.out.drew (by assumption))).2.2.2) (by assumption) F1.out) (by assumption)).mono ?_; rintro e w' ⟨rfl, hk4, hin4⟩))
     all_goals
      go_wp2_with fail
      go_meet
      exact ⟨rfl, by assumption⟩
    case rest =>
    clear hin6
    obtain ⟨w8, rfl⟩ : ∃ w8 : World, w8 = wc := ⟨_, rfl⟩
    obtain ⟨rfl, hin6⟩ := hcut
    have Hend := zH (KC.out _ (KC2.out _ hin6).1).2.2.2
    clear hin6
    go_wp2_with fail
    go_ret
    exact ⟨rfl, Hend.out⟩
end Go.Proofs.Ytmjmjilpcekngaa
