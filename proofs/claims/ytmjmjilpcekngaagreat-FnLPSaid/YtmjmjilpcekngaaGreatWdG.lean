/- FnLP: the walk (wdG.py). -/
import Derived.Test.YtmjmjilpcekngaaGreatGWd
import Derived.Test.YtmjmjilpcekngaaGreatWdC
import Derived.Test.YtmjmjilpcekngaaGreatBig
import Derived.Test.YtmjmjilpcekngaaGreatGLj
import Derived.Test.YtmjmjilpcekngaaGreatGLw
import Derived.Test.YtmjmjilpcekngaaGreatGRa
namespace Go.Proofs.YtmjmjilpcekngaaGreat
open Go.RowKit
open Ve (R)
open Ta (T)
open Lp (P Res)
theorem impl_Chk_c {w : World} {x y z u0 u1 u2 u3 u4 u5 u6 : Value} {p : P} {r : Res} (h : LpC w x y z p) (hr : ResC w u0 u1 u2 u3 u4 u5 u6 r) (hs : 0 ≤ r.status ∧ r.status ≤ 4) (hn : LpFits p) (hf : ResFits r) (g : Bool) (hg : Lp.chk p r = g) :
  Calls Tryz.prog 7 #[.agg #[x, y, z], .agg #[u0, u1, u2, u3, u4, u5, u6]] w fun e w' => e = .returned (.bool g) ∧ Below w.heap.size w w' := by
 obtain ⟨a, b, c, c1, c2, c3, rfl, rfl, rfl, hi⟩ := h
 obtain ⟨a', b', c', d1, d2, d3, rfl, rfl, rfl, rfl, rfl, rfl, rfl, hq⟩ := hr
 exact impl_CheckLP w.heap.size a b c a' b' c' c1 c2 c3 d1 d2 d3 p r (by
  have e1 : IntKind.i64.min = -9223372036854775808 := rfl
  have e2 : IntKind.i64.max = 9223372036854775807 := rfl
  simp [Lit.wf, e1, e2]; omega) hn hf g hg w (Nat.le_refl _) hi hq
theorem spec_Chk_c {w : World} {x y z u0 u1 u2 u3 u4 u5 u6 : Value} {p : P} {r : Res} (h : LpC w x y z p) (hr : ResC w u0 u1 u2 u3 u4 u5 u6 r) (hn : LpFits p) (hf : ResFits r) (g : Bool) (hg : Lp.chk p r = g) :
  Calls Tryz.prog 8 #[.agg #[x, y, z], .agg #[u0, u1, u2, u3, u4, u5, u6]] w fun e w' => e = .returned (.bool g) ∧ Below w.heap.size w w' := by
 obtain ⟨a, b, c, c1, c2, c3, rfl, rfl, rfl, hi⟩ := h
 obtain ⟨a', b', c', d1, d2, d3, rfl, rfl, rfl, rfl, rfl, rfl, rfl, hq⟩ := hr
 exact spec_CheckLP w.heap.size a b c a' b' c' c1 c2 c3 d1 d2 d3 p r hn hf g hg w (Nat.le_refl _) hi hq
theorem sameRes_self (r : Res) : sameRes r r = true := by unfold sameRes eqV; simp
theorem impl_EqRes_c {w : World} {u0 u1 u2 u3 u4 u5 u6 : Value} {r : Res} (hr : ResC w u0 u1 u2 u3 u4 u5 u6 r) (hf : ResFits r) :
  Calls Tryz.prog 9 #[.agg #[u0, u1, u2, u3, u4, u5, u6], .agg #[u0, u1, u2, u3, u4, u5, u6]] w fun e w' => e = .returned (.bool true) ∧ Below w.heap.size w w' := by
 obtain ⟨a', b', c', d1, d2, d3, rfl, rfl, rfl, rfl, rfl, rfl, rfl, hq⟩ := hr
 exact impl_EqualResult w.heap.size a' b' c' a' b' c' d1 d2 d3 d1 d2 d3 r r hf hf true (sameRes_self r) w (Nat.le_refl _) hq hq
theorem impl_IsV_c {w : World} {x y z : Value} {p : P} (h : LpC w x y z p) (hn : LpFits p) (g : Bool) (hg : Lp.vldP p = g) : Calls Tryz.prog 10 #[.agg #[x, y, z]] w fun e w' => e = .returned (.bool g) ∧ Below w.heap.size w w' := by
 obtain ⟨a, b, c, c1, c2, c3, rfl, rfl, rfl, hi⟩ := h
 rw [← hg]
 exact impl_IsValidLP w.heap.size a b c c1 c2 c3 p hn w (Nat.le_refl _) hi
theorem spec_IsV_c {w : World} {x y z : Value} {p : P} (h : LpC w x y z p) (hn : LpFits p) (g : Bool) (hg : Lp.vldP p = g) : Calls Tryz.prog 11 #[.agg #[x, y, z]] w fun e w' => e = .returned (.bool g) ∧ Below w.heap.size w w' := by
 obtain ⟨a, b, c, c1, c2, c3, rfl, rfl, rfl, hi⟩ := h
 rw [← hg]
 exact spec_IsValidLP w.heap.size a b c c1 c2 c3 p hn w (Nat.le_refl _) hi
theorem lp_agree {p : P} {r : Res} (h : Lp.chk p r = true) : ((Ta.solve p).status = r.status ∧ (r.status = 1 → (Ta.solve p).value = r.value)) ∨ ((Ta.solve p).status = 4 ∧ r.status ≠ 4) := by
 obtain ⟨hv, h1⟩ := Lp.chk_parts h
 rcases Ta.solve_chk p with h2 | ⟨h2, _⟩ | ⟨_, h2⟩
 ·
  obtain ⟨e1, e2⟩ := Lp.agree h2 h
  exact .inl ⟨e1, fun e => e2 (e1.trans e)⟩
 ·
  rw [hv] at h2; cases h2
 ·
  right
  rw [h2]
  refine ⟨rfl, ?_⟩
  rcases h1 with ⟨e, _⟩ | ⟨e, _⟩ | ⟨e, _⟩ <;> omega
set_option maxRecDepth 100000 in
set_option maxHeartbeats 16000000 in
theorem fnLP.walk0 (a : Option Addr) (len cap : Nat) (w : World) (hcode : CodeAt w.heap.size w a len) :
  Calls Tryz.prog 3 #[.slice a len cap] w fun e w' => e = .returned (.bool true) ∧ Below w.heap.size w w' := by
 have Hc := zH hcode
 clear hcode
 by_cases hbig : 1048576 < len
 ·
  go_enter Tryz.func3, Tryz.ntmps3
  go_wp2_with fail
  refine (big_yes a len cap hbig w).mono ?_
  rintro e w1 ⟨rfl, rfl⟩
  go_wp2_with fail
  go_ret
  exact ⟨rfl, Below.refl _ _⟩
 ·
  go_enter Tryz.func3, Tryz.ntmps3
  go_wp2_with fail
  refine (big_no a len cap (by omega) w).mono ?_
  rintro e wz ⟨rfl, rfl⟩
  go_wp2_with fail
  refine (spec_DrawCheckLP a len cap w Hc.out).mono ?_
  rintro e w1 ⟨x, y, z, u0, u1, u2, u3, u4, u5, u6, p, R0, rfl, hL, hF, hR, hRf, hRs, k⟩
  obtain ⟨o0, o1, o2⟩ := hL.one
  have t0 := sto o0
  have t1 := sto o1
  have t2 := sto o2
  obtain ⟨p0, p1, p2, p3, p4, p5, p6⟩ := hR.one
  have k0 := sto p0
  have k1 := sto p1
  have k2 := sto p2
  have k3 := sto p3
  have k4 := sto p4
  have k5 := sto p5
  have k6 := sto p6
  obtain ⟨O1, hO1⟩ : ∃ O, O = Obj.cells #[x, y, z] 28 := ⟨_, rfl⟩
  obtain ⟨O2, hO2⟩ : ∃ O, O = Obj.cells #[u0, u1, u2, u3, u4, u5, u6] 32 := ⟨_, rfl⟩
  obtain ⟨W, hW⟩ : ∃ W, W = (w1.alloc O1).alloc O2 := ⟨_, rfl⟩
  obtain ⟨q, hq⟩ : ∃ q, q = w1.heap.size := ⟨_, rfl⟩
  have hT : Tri W q x y z 28 := by rw [hW, hq, hO1]; exact (Tri.new w1 x y z _).more O2
  have hS : CellsAt W (q + 1) #[u0, u1, u2, u3, u4, u5, u6] 32 := by
   have := CellsAt.new (w1.alloc O1) #[u0, u1, u2, u3, u4, u5, u6] 32
   rw [size1, ← hq] at this
   rw [hW, hO2]; exact this
  have up1 : Below w1.heap.size w1 W := by rw [hW]; exact ((Below.refl _ _).alloc (Nat.le_refl _) O1).alloc (by rw [size1]; omega) O2
  have HB := zH (k.trans (up1.mono k.size))
  have HT := zH hT
  have HS := zH hS
  have HL := zH (hL.up up1)
  have HR := zH (hR.up up1)
  have HF := zH hF
  have HRf := zH hRf
  have HRs := zH hRs
  have HO1 := zH hO1
  have HO2 := zH hO2
  have HW := zH hW
  have Hq := zH hq
  have HAg := zH (lp_agree (p := p) (r := R0))
  have Cell := zH (fun w' (hb : Below W.heap.size W w') => (show (w'.cell? ⟨q, 0, none⟩ = some x ∧ w'.cell? ⟨q, 1, none⟩ = some y ∧ w'.cell? ⟨q, 2, none⟩ = some z) ∧ (w'.cell? ⟨q + 1, 0, none⟩ = some u0 ∧ w'.cell? ⟨q + 1, 1, none⟩ = some u1 ∧ w'.cell? ⟨q + 1, 2, none⟩ = some u2 ∧ w'.cell? ⟨q + 1, 3, none⟩ = some u3 ∧ w'.cell? ⟨q + 1, 4, none⟩ = some u4 ∧ w'.cell? ⟨q + 1, 5, none⟩ = some u5 ∧ w'.cell? ⟨q + 1, 6, none⟩ = some u6) ∧ Below W.heap.size W w' from
   ⟨⟨(HT.out.below hb).cells.1, (HT.out.below hb).cells.2.1, (HT.out.below hb).cells.2.2.1⟩, ⟨(sevC (HS.out.below hb)).1.1, (sevC (HS.out.below hb)).1.2.1, (sevC (HS.out.below hb)).1.2.2.1, (sevC (HS.out.below hb)).1.2.2.2, (sevC (HS.out.below hb)).2.1, (sevC (HS.out.below hb)).2.2.1, (sevC (HS.out.below hb)).2.2.2⟩, hb⟩))
  obtain ⟨g, hg⟩ : ∃ g, Lp.chk p R0 = g := ⟨_, rfl⟩
  obtain ⟨vv, hvv⟩ : ∃ vv, Lp.vldP p = vv := ⟨_, rfl⟩
  have HG := zH hg
  have IK := zH (fun W' (hb : Below W.heap.size W W') => impl_Chk_c (HL.out.up hb) (HR.out.up hb) HRs.out HF.out HRf.out g hg)
  have SK := zH (fun W' (hb : Below W.heap.size W W') => spec_Chk_c (HL.out.up hb) (HR.out.up hb) HF.out HRf.out g hg)
  have EQ := zH (fun W' (hb : Below W.heap.size W W') => impl_EqRes_c (HR.out.up hb) HRf.out)
  have IV := zH (fun W' (hb : Below W.heap.size W W') => impl_IsV_c (HL.out.up hb) HF.out vv hvv)
  have SV := zH (fun W' (hb : Below W.heap.size W W') => spec_IsV_c (HL.out.up hb) HF.out vv hvv)
  have hgg : (g != g) = false := by simp
  have hvg : (vv != vv) = false := by simp
  obtain ⟨⟨m0, m1, m2⟩, ⟨n0, n1, n2, n3, n4, n5, n6⟩, _⟩ := Cell.out W (Below.refl _ _)
  clear hT hS up1 hL hR hF hRf hRs k hO1 hO2 hW hq o0 o1 o2 p0 p1 p2 p3 p4 p5 p6 hg hvv
  go_wp2_with fail
  rw [← HO1.out, ← HO2.out, ← HW.out, ← Hq.out]
  clear HO1 HO2 HW Hq t0 t1 t2 k0 k1 k2 k3 k4 k5 k6
  refine (IK.out _ (Below.refl _ _)).mono ?_
  rintro e w2 ⟨rfl, k⟩
  have hb0 := k.drew
  clear k m0 m1 m2 n0 n1 n2 n3 n4 n5 n6
  go_upto_region 5 with fail
  refine wp_region_T_drew (S := (fun w' => (w'.cell? ⟨q, 0, none⟩ = some x ∧ w'.cell? ⟨q, 1, none⟩ = some y ∧ w'.cell? ⟨q, 2, none⟩ = some z) ∧ (w'.cell? ⟨q + 1, 0, none⟩ = some u0 ∧ w'.cell? ⟨q + 1, 1, none⟩ = some u1 ∧ w'.cell? ⟨q + 1, 2, none⟩ = some u2 ∧ w'.cell? ⟨q + 1, 3, none⟩ = some u3 ∧ w'.cell? ⟨q + 1, 4, none⟩ = some u4 ∧ w'.cell? ⟨q + 1, 5, none⟩ = some u5 ∧ w'.cell? ⟨q + 1, 6, none⟩ = some u6) ∧ Below W.heap.size W w')) 17 (by kernel_rfl) ?_ (fun hHeld => ?_)
  ·
   exact Cell.out _ hb0
  refine tk2 0 ⟨some 20, .move (.tmp 5), 4, "laws.go:220", #[], none⟩ ?_
  refine tk2 1 ⟨some 21, .load 28 (.tmp 3), 28, "laws.go:220", #[], none⟩ ?_
  refine tk2 2 ⟨some 22, .load 32 (.tmp 4), 32, "laws.go:220", #[], none⟩ ?_
  try simp only [Act.put, zA, zB, zC]
  refine rd2 3 ⟨some 23, .call { callee := .value (.func 8), args := #[.tmp 21, .tmp 22], argTypes := #[28, 32] }, 4, "laws.go:220", #[⟨1, .data⟩, ⟨2, .data⟩], none⟩ fun K hK => ?_
  go_simp
  (refine (SK.out _ hb0).mono ?_; rintro e w3 ⟨rfl, k3⟩; have hb3 := hb0.trans (k3.mono hb0.size))
  refine hK.out _ _ ?_ (fun hHeld => ?_)
  ·
   exact Cell.out _ hb3
  clear hK K
  refine tk2 4 ⟨some 24, .binOp .neq 4 (.tmp 20) (.tmp 23) 4, 4, "laws.go:220", #[⟨0, .data⟩, ⟨3, .data⟩], none⟩ ?_
  refine tk2 5 ⟨some 25, .move (.tmp 24), 4, "laws.go:220", #[⟨4, .data⟩, ⟨3, .chain⟩], none⟩ ?_
  try simp only [Act.put, zA, zB, zC]
  refine tk2 6 ⟨some 26, .load 32 (.tmp 4), 32, "laws.go:220", #[⟨5, .guard⟩], some (5, false)⟩ ?_
  try simp only [Act.put, zA, zB, zC]
  refine tk2 7 ⟨some 27, .load 32 (.tmp 4), 32, "laws.go:220", #[⟨5, .guard⟩], some (5, false)⟩ ?_
  try simp only [Act.put, zA, zB, zC]
  refine rd2 8 ⟨some 28, .call { callee := .value (.func 9), args := #[.tmp 26, .tmp 27], argTypes := #[32, 32] }, 4, "laws.go:220", #[⟨6, .data⟩, ⟨7, .data⟩, ⟨5, .chain⟩, ⟨5, .guard⟩], some (5, false)⟩ fun K hK => ?_
  go_simp
  (refine (EQ.out _ hb3).mono ?_; rintro e w4 ⟨rfl, k4⟩; have hb4 := hb3.trans (k4.mono hb3.size))
  refine hK.out _ _ ?_ (fun hHeld => ?_)
  ·
   exact Cell.out _ hb4
  clear hK K
  try simp only [Act.put, zA, zB, zC]
  refine tk2 9 ⟨some 29, .unOp .not 4 (.tmp 28), 4, "laws.go:220", #[⟨8, .data⟩, ⟨5, .guard⟩], some (5, false)⟩ ?_
  refine tk2 10 ⟨some 30, .pick (.tmp 25) (.const (Value.bool true)) (.tmp 29), 4, "laws.go:220", #[⟨5, .data⟩, ⟨9, .data⟩], none⟩ ?_
  refine tk2 11 ⟨some 31, .move (.tmp 30), 4, "laws.go:220", #[⟨10, .data⟩, ⟨8, .chain⟩], none⟩ ?_
  try simp only [Act.put, zA, zB, zC]
  refine tk2 12 ⟨some 32, .load 28 (.tmp 3), 28, "laws.go:220", #[⟨11, .guard⟩], some (11, false)⟩ ?_
  try simp only [Act.put, zA, zB, zC]
  refine tk2 14 ⟨some 34, .load 28 (.tmp 3), 28, "laws.go:220", #[⟨11, .guard⟩], some (11, false)⟩ ?_
  try simp only [Act.put, zA, zB, zC]
  refine rd2 13 ⟨some 33, .call { callee := .value (.func 10), args := #[.tmp 32], argTypes := #[28] }, 4, "laws.go:220", #[⟨12, .data⟩, ⟨11, .chain⟩, ⟨11, .guard⟩], some (11, false)⟩ fun K hK => ?_
  go_simp
  (refine (IV.out _ hb4).mono ?_; rintro e w5 ⟨rfl, k5⟩; have hb5 := hb4.trans (k5.mono hb4.size))
  refine hK.out _ _ ?_ (fun hHeld => ?_)
  ·
   exact Cell.out _ hb5
  clear hK K
  try simp only [Act.put, zA, zB, zC]
  refine rd2 15 ⟨some 35, .call { callee := .value (.func 11), args := #[.tmp 34], argTypes := #[28] }, 4, "laws.go:220", #[⟨14, .data⟩, ⟨13, .chain⟩, ⟨11, .guard⟩], some (11, false)⟩ fun K hK => ?_
  go_simp
  (refine (SV.out _ hb5).mono ?_; rintro e w6 ⟨rfl, k6⟩; have hb6 := hb5.trans (k6.mono hb5.size))
  refine hK.out _ _ ?_ (fun hHeld => ?_)
  ·
   exact Cell.out _ hb6
  clear hK K
  try simp only [Act.put, zA, zB, zC]
  refine tk2 16 ⟨some 36, .binOp .neq 4 (.tmp 33) (.tmp 35) 4, 4, "laws.go:220", #[⟨13, .data⟩, ⟨15, .data⟩, ⟨11, .guard⟩], some (11, false)⟩ ?_
  try simp only [Act.put, zA, zB, zC]
  refine rd3 17 ⟨some 37, .pick (.tmp 31) (.const (Value.bool true)) (.tmp 36), 4, "laws.go:220", #[⟨11, .data⟩, ⟨16, .data⟩], none⟩ fun K hK => ?_
  go_simp
  refine hK.out _ _ ?_
  clear hK K
  try simp only [Act.put, zA, zB, zC]
  refine wpAnyT_done (by kernel_rfl) ?_ _
  have HB6 := zH hb6
  clear hb0 hb3 hb4 hb5 hb6 k3 k4 k5 k6 IK SK EQ IV SV hvg
  have HC6 := zH (Hc.out.below (HB.out.trans (HB6.out.mono HB.out.size)))
  have hws : w.heap.size ≤ w6.heap.size := (HB.out.trans (HB6.out.mono HB.out.size)).size
  go_wp2_with fail
  refine (spec_DrawIsFeasible a len cap w6 (HC6.out.mono hws)).mono ?_
  rintro e w7 ⟨x', y', z', v', p', xs, rfl, hL', hF', hX', hxl, k⟩
  obtain ⟨o0, o1, o2⟩ := hL'.one
  have t0 := sto o0
  have t1 := sto o1
  have t2 := sto o2
  obtain ⟨O3, hO3⟩ : ∃ O, O = Obj.cells #[x', y', z'] 28 := ⟨_, rfl⟩
  obtain ⟨V, hV⟩ : ∃ V, V = w7.alloc O3 := ⟨_, rfl⟩
  obtain ⟨q2, hq2⟩ : ∃ q, q = w7.heap.size := ⟨_, rfl⟩
  have hT2 : Tri V q2 x' y' z' 28 := by rw [hV, hq2, hO3]; exact Tri.new w7 _ _ _ _
  have up2 : Below w7.heap.size w7 V := by rw [hV]; exact (Below.refl _ _).alloc (Nat.le_refl _) O3
  have HBV := zH (HB6.out.trans ((k.trans (up2.mono k.size)).mono HB6.out.size))
  have HL2 := zH (hL'.up up2)
  have HX2 := zH (hX'.up up2)
  have HT2 := zH hT2
  obtain ⟨fe, hfe⟩ : ∃ fe, Lp.feas p' xs = fe := ⟨_, rfl⟩
  have IFe := zH (fun W' (hb : Below V.heap.size V W') => impl_Feas_c (HL2.out.up hb) (HX2.out.up hb) hF' hxl fe hfe)
  have SFe := zH (fun W' (hb : Below V.heap.size V W') => spec_Feas_c (HL2.out.up hb) (HX2.out.up hb) hF' hxl fe hfe)
  have hff : (fe != fe) = false := by simp
  have HO3 := zH hO3
  have HV := zH hV
  have Hq2 := zH hq2
  obtain ⟨m0, m1, m2, _⟩ := hT2.cells
  clear hL' hF' hX' hxl hT2 up2 k o0 o1 o2 hO3 hV hq2 hfe HB6 HC6 hws
  go_wp2_with fail
  rw [← HO3.out, ← HV.out, ← Hq2.out]
  clear HO3 HV Hq2 t0 t1 t2
  refine (IFe.out _ (Below.refl _ _)).mono ?_
  rintro e w8 ⟨rfl, k⟩
  have HB8 := zH k
  obtain ⟨c0, c1, c2, _⟩ := (HT2.out.below k).cells
  clear k m0 m1 m2
  go_wp2_with fail
  refine (SFe.out _ HB8.out).mono ?_
  rintro e w9 ⟨rfl, k⟩
  have HB9 := zH (HBV.out.trans ((HB8.out.trans (k.mono HB8.out.size)).mono HBV.out.size))
  obtain ⟨⟨m0, m1, m2⟩, _, _⟩ := Cell.out _ HB9.out
  clear k c0 c1 c2
  go_wp2_with fail
  refine (spec_Solve_c (HL.out.up HB9.out) HF.out).mono ?_
  rintro e w10 ⟨⟨s0, s1, s2, s3, s4, s5, s6, rfl, hr, _, _, _, _⟩, k⟩
  obtain ⟨p0, p1, p2, p3, p4, p5, p6⟩ := hr.one
  have k1 := sto p1
  have k2 := sto p2
  have k3 := sto p3
  have k6 := sto p6
  obtain ⟨S, hS⟩ : ∃ S, Ta.solve p = S := ⟨_, rfl⟩
  rw [hS] at hr HAg
  obtain ⟨st, hst⟩ : ∃ st, S.status = st := ⟨_, rfl⟩
  obtain ⟨vn, hvn⟩ : ∃ vn, S.value.1 = vn := ⟨_, rfl⟩
  obtain ⟨vd, hvd⟩ : ∃ vd, S.value.2 = vd := ⟨_, rfl⟩
  have HVal : Hid (S.value = (vn, vd)) := by show _ = _; rw [← hvn, ← hvd]
  obtain ⟨ra, rb, rc, rd1, rd2, rd3, e0, e1, e2, e3, e4, e5, e6, _⟩ := hr
  rw [hst] at e0 HAg
  rw [hvn] at e4
  rw [hvd] at e5
  obtain ⟨ta, tb, tc, td1, td2, td3, f0, f1, f2, f3, f4, f5, f6, _⟩ := HR.out
  obtain ⟨rt, hrt⟩ : ∃ rt, R0.status = rt := ⟨_, rfl⟩
  obtain ⟨rn, hrn⟩ : ∃ rn, R0.value.1 = rn := ⟨_, rfl⟩
  obtain ⟨rd, hrd⟩ : ∃ rd, R0.value.2 = rd := ⟨_, rfl⟩
  have HVal2 : Hid (R0.value = (rn, rd)) := by show _ = _; rw [← hrn, ← hrd]
  rw [hrt] at f0 HAg
  rw [hrn] at f4
  rw [hrd] at f5
  clear e1 e2 e3 e6 f1 f2 f3 f6
  subst e0 e4 e5
  obtain ⟨O4, hO4⟩ : ∃ O, O = Obj.cells #[.int .i64 st, s1, s2, s3, .int .i64 vn, .int .i64 vd, s6] 32 := ⟨_, rfl⟩
  obtain ⟨U, hU⟩ : ∃ U, U = w10.alloc O4 := ⟨_, rfl⟩
  obtain ⟨r2, hr2⟩ : ∃ r, r = w10.heap.size := ⟨_, rfl⟩
  have hR2 : CellsAt U r2 #[.int .i64 st, s1, s2, s3, .int .i64 vn, .int .i64 vd, s6] 32 := by rw [hU, hr2, hO4]; exact CellsAt.new w10 _ _
  have hBU : Below W.heap.size W U := HB9.out.trans (by rw [hU]; exact (k.alloc k.size O4).mono HB9.out.size)
  obtain ⟨_, ⟨n0, _, _, _, n4, n5, _⟩, _⟩ := Cell.out _ hBU
  rw [f0] at n0
  rw [f4] at n4
  rw [f5] at n5
  obtain ⟨⟨b0, _, _, _⟩, b4, b5, _⟩ := sevC hR2
  have HBf := zH (HB.out.trans (hBU.mono HB.out.size))
  have HO4 := zH hO4
  have HU := zH hU
  have Hr2 := zH hr2
  have hg := HG.out
  have hag := HAg.out
  have he := eq_rat
  have hn := ne_rat
  have hgr := eqg_rat
  clear k hR2 hBU hO4 hU hr2 p0 p1 p2 p3 p4 p5 p6 f0 f4 f5 hS hst hvn hvd hrt hrn hrd HR HL HT HS HAg HG Cell HRs HRf HF
  rcases g with _ | _
  ·
   clear hg hag HVal HVal2 he hn hgr
   go_upto_region 12 with fail
   rw [← HO4.out, ← HU.out, ← Hr2.out]
   go_wp2_with fail
   go_ret
   exact ⟨rfl, HBf.out⟩
  ·
   have hag2 := hag hg
   clear hag hg
   rcases hag2 with ⟨h1, h2⟩ | ⟨h1, h2⟩
   ·
    subst h1
    have hss : (st == st) = true := by simp
    by_cases h1 : st = 1
    ·
     have h3 := h2 h1
     rw [HVal.out, HVal2.out] at h3
     injection h3 with h3 h4
     subst h3 h4 h1
     have q1 : (!(vn == vn && vd == vd)) = false := by simp
     clear HVal HVal2 h2
     go_upto_region 12 with fail
     rw [← HO4.out, ← HU.out, ← Hr2.out]
     go_wp2_with fail
     go_ret
     exact ⟨rfl, HBf.out⟩
    ·
     have q1 : (st == 1) = false := by rw [beq_eq_false_iff_ne]; exact h1
     clear HVal HVal2 h2 h1 he hn hgr
     go_upto_region 12 with fail
     rw [← HO4.out, ← HU.out, ← Hr2.out]
     go_wp2_with fail
     go_ret
     exact ⟨rfl, HBf.out⟩
   ·
    subst h1
    have q4 : ((4 : Int) == rt) = false := by rw [beq_eq_false_iff_ne]; exact fun e => h2 e.symm
    clear HVal HVal2 h2 he hn hgr
    by_cases h1 : rt = 1
    ·
     subst h1
     clear q4
     go_upto_region 12 with fail
     rw [← HO4.out, ← HU.out, ← Hr2.out]
     go_wp2_with fail
     go_ret
     exact ⟨rfl, HBf.out⟩
    ·
     have q1 : (rt == 1) = false := by rw [beq_eq_false_iff_ne]; exact h1
     clear h1
     go_upto_region 12 with fail
     rw [← HO4.out, ← HU.out, ← Hr2.out]
     go_wp2_with fail
     go_ret
     exact ⟨rfl, HBf.out⟩
theorem fnLP.walk (a : Option Addr) (len cap : Nat) (zs : List Int) (w : World) (h : IntsAt .u8 w.heap.size w a len zs) :
  Calls Tryz.prog 3 #[.slice a len cap] w fun e w' => e = .returned (.bool true) ∧ Below w.heap.size w w' := fnLP.walk0 a len cap w (code_of h)
end Go.Proofs.YtmjmjilpcekngaaGreat
