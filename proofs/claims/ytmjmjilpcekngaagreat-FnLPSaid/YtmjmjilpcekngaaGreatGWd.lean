/- The parts WdB, WdD, WdE. -/
import Derived.Test.YtmjmjilpcekngaaGreatWdA
import Derived.Test.YtmjmjilpcekngaaGreatHeldT
import Derived.Test.YtmjmjilpcekngaaGreatGTd
import Derived.Test.YtmjmjilpcekngaaGreatGDl
set_option maxRecDepth 100000
namespace Go.Proofs.YtmjmjilpcekngaaGreat
open Go.RowKit
open Ve (R)
open Ta (T)
open Lp (P Res)
def DrewFeas (w : World) (e : Ending) (w' : World) : Prop :=
 ∃ (x y z v : Value) (p : P) (xs : List R), e = .returned (.tuple #[.agg #[x, y, z], v]) ∧ LpC w' x y z p ∧ LpFits p ∧ InRats w' v xs ∧ xs.length ≤ 1048576 ∧ Below w.heap.size w w'
theorem res_u1 {w : World} {u0 u1 u2 u3 u4 u5 u6 : Value} {r : Res} (h : ResC w u0 u1 u2 u3 u4 u5 u6 r) : ∃ (a : Option Addr) (c : Nat), u1 = .slice a r.X.length c := by
 obtain ⟨a, b, c, c1, c2, c3, e0, e1, _⟩ := h
 exact ⟨a, c1, e1⟩
theorem lp_done {lo lo2 lo3 q : Nat} {w : World} {vA vB vC v y0 y1 y2 : Value} {A : List (List Int)} {B : List Int} {C xs : List R} (h : OwnAB lo w vA vB A B) (hc : OwnRats lo2 w vC C) (hx : OwnRats lo3 w v xs) (ht : Tri w q y0 y1 y2 28) (z0 z1 z2 : Value) :
  LpC (((w.setCell ⟨q, 0, none⟩ z0).setCell ⟨q, 1, none⟩ z1).setCell ⟨q, 2, none⟩ z2) vA vB vC ⟨A, B, C⟩ ∧ InRats (((w.setCell ⟨q, 0, none⟩ z0).setCell ⟨q, 1, none⟩ z1).setCell ⟨q, 2, none⟩ z2) v xs := by
 have t0 := ht.set0 z0
 have t1 := t0.set1 z1
 have hcq := own_away hc (tri_ty ht) lp_ne.2.2.2.2.1
 have hxq := own_away hx (tri_ty ht) lp_ne.2.2.2.2.1
 have hab := ((h.set (i := 0) (u := z0) (tri_ty ht) lp_ne.1 lp_ne.2.1).set (i := 1) (u := z1) (tri_ty t0) lp_ne.1 lp_ne.2.1).set (i := 2) (u := z2) (tri_ty t1) lp_ne.1 lp_ne.2.1
 exact ⟨drawn_lp hab (owns_set (i := 2) (u := z2) (owns_set (i := 1) (u := z1) (owns_set (i := 0) (u := z0) hc hcq) hcq) hcq), own_inR (owns_set (i := 2) (u := z2) (owns_set (i := 1) (u := z1) (owns_set (i := 0) (u := z0) hx hxq) hxq) hxq)⟩
set_option maxHeartbeats 8000000 in
theorem spec_DrawIsFeasible (a : Option Addr) (len cap : Nat) (w : World) (hcode : CodeAt w.heap.size w a len) :
  Calls Tryz.prog 12 #[.slice a len cap] w (DrewFeas w) := by
 have Hc := zH hcode
 have HN0 := zH (Tri.new w (.slice none 0 0) (.slice none 0 0) (.slice none 0 0) 28)
 have HB0 := zH ((Below.refl w.heap.size w).alloc (Nat.le_refl _) (.cells #[.slice none 0 0, .slice none 0 0, .slice none 0 0] 28))
 have Hs0 := zH (size1 w (.cells #[.slice none 0 0, .slice none 0 0, .slice none 0 0] 28))
 clear hcode
 go_enter Tryz.func12, Tryz.ntmps12
 go_wp2_with fail
 generalize w.alloc (.cells #[.slice none 0 0, .slice none 0 0, .slice none 0 0] 28) = W0 at *
 refine (spec_l1New w.heap.size a len cap W0 (Hc.out.below HB0.out)).mono ?_
 rintro e w1 ⟨rfl, hc1, hb1, hsz1⟩
 have HC1 := zH hc1
 have HB1 := zH hb1
 clear hc1 hb1
 obtain ⟨p, hp⟩ : ∃ p, W0.heap.size = p := ⟨_, rfl⟩
 have hp0 : p = w.heap.size + 1 := by rw [← hp]; exact Hs0.out
 have hp1 : w.heap.size < p ∧ p ≤ w.heap.size + 1 := by omega
 rw [hp] at HC1 HB1 hsz1 ⊢
 have hpl : p < w1.heap.size := HC1.out.lt
 have hT1 : Tri w1 w.heap.size (.slice none 0 0) (.slice none 0 0) (.slice none 0 0) 28 := (HB1.out.block _ (by omega)).trans HN0.out
 have HT := zH hT1
 have HB := zH (HB0.out.trans (HB1.out.mono (by omega)))
 have hbp : w.heap.size ≤ p := by omega
 clear hT1 HN0 HB0 HB1 Hs0 hp hp0 hsz1
 go_wp2_with fail
 refine (spec_l5Bent w.heap.size p a len cap w1 hbp HC1.out (Hc.out.below HB.out)).mono ?_
 rintro e w2 ⟨vA, vB, vC, A, Bv, C, rfl, hM, hab, hc, hcu, ho⟩
 have hF := zH (mid_fits hM)
 have hCl : C.length ≤ 6 := hM.c6
 have hl := drawn_lp hab hc
 obtain ⟨o0, o1, o2⟩ := hl.one
 have HOne := zH (And.intro o0 o1)
 have t0 := sto o0
 have t1 := sto o1
 obtain ⟨cc, cC, rfl, _⟩ := own_rats hc
 have t2 := sto o2
 have hsz2 : w1.heap.size ≤ w2.heap.size := ho.low.size
 replace HT := zH (show Tri w2 w.heap.size (.slice none 0 0) (.slice none 0 0) (.slice none 0 0) 28 from (ho.block (by omega) (lt_of_at HT.out)).trans HT.out)
 replace HB := zH (HB.out.trans (ho.below hbp))
 have HAB := zH (hab.below ((Below.refl _ _).alloc (Nat.le_refl _) (.cells #[vA, vB, .slice cc C.length cC] 28)))
 have HCC : Hid (OwnRats w1.heap.size _ _ _) := hc.alloc (.cells #[vA, vB, .slice cc C.length cC] 28)
 have HL := zH (hl.up ((Below.refl _ _).alloc (Nat.le_refl _) (.cells #[vA, vB, .slice cc C.length cC] 28)))
 have HU := zH (hcu.alloc (.cells #[vA, vB, .slice cc C.length cC] 28))
 have HQ := zH (Tri.new w2 vA vB (.slice cc C.length cC) 28)
 replace HT := zH (HT.out.more (.cells #[vA, vB, .slice cc C.length cC] 28))
 replace HB := zH (HB.out.alloc HB.out.size (.cells #[vA, vB, .slice cc C.length cC] 28))
 have hs3 := size1 w2 (.cells #[vA, vB, .slice cc C.length cC] 28)
 obtain ⟨q, hq⟩ : ∃ q, w2.heap.size = q := ⟨_, rfl⟩
 obtain ⟨m0, m1, m2, _⟩ := HQ.out.cells
 rw [hq] at HQ hs3 hsz2 m0 m1 m2
 have hs3l : q < (w2.alloc (.cells #[vA, vB, .slice cc C.length cC] 28)).heap.size := by omega
 have Hq := zH hq
 clear hab hc hcu ho hl o0 o1 o2 hM HC1 hq hs3
 go_wp2_with fail
 rw [Hq.out]
 clear Hq t0 t1 t2
 generalize w2.alloc (.cells #[vA, vB, .slice cc C.length cC] 28) = W3 at *
 refine (spec_Solve_c HL.out hF.out).mono ?_
 rintro e w4 ⟨⟨u0, u1, u2, u3, u4, u5, u6, rfl, hr, hX, _, _, _⟩, k⟩
 obtain ⟨o0, o1, o2, o3, o4, o5, o6⟩ := hr.one
 have t0 := sto o0
 have t2 := sto o2
 have t3 := sto o3
 have t4 := sto o4
 have t5 := sto o5
 have t6 := sto o6
 obtain ⟨ax, cx, rfl⟩ := res_u1 hr
 have t1 := sto o1
 have hxf := (solve_fits ⟨A, Bv, C⟩).1
 obtain ⟨XS, hXS⟩ : ∃ XS, (Ta.solve ⟨A, Bv, C⟩).X = XS := ⟨_, rfl⟩
 rw [hXS] at hX hxf t1 o1 ⊢
 have hs4 := k.size
 obtain ⟨O, hO⟩ : ∃ O, O = Obj.cells #[u0, .slice ax XS.length cx, u2, u3, u4, u5, u6] 32 := ⟨_, rfl⟩
 have kk := k.alloc hs4 O
 have HX : Hid (OwnRats W3.heap.size _ _ _) := hX.alloc O
 replace HAB := zH (HAB.out.below kk)
 replace HCC : Hid (OwnRats w1.heap.size _ _ _) := (OwnRats.below HCC.out kk)
 replace HU := zH (HU.out.below kk)
 replace HQ := zH (show Tri (w4.alloc O) q vA vB (.slice cc C.length cC) 28 from (kk.block _ (lt_of_at HQ.out)).trans HQ.out)
 replace HT := zH (show Tri (w4.alloc O) w.heap.size (.slice none 0 0) (.slice none 0 0) (.slice none 0 0) 28 from (kk.block _ (lt_of_at HT.out)).trans HT.out)
 replace HB := zH (HB.out.trans (kk.mono HB.out.size))
 have HR := zH (hO ▸ CellsAt.new w4 #[u0, .slice ax XS.length cx, u2, u3, u4, u5, u6] 32 : CellsAt (w4.alloc O) w4.heap.size #[u0, .slice ax XS.length cx, u2, u3, u4, u5, u6] 32)
 obtain ⟨r, hr'⟩ : ∃ r, w4.heap.size = r := ⟨_, rfl⟩
 rw [hr'] at HR
 have hqp : q ≠ p := by omega
 have hrp : r ≠ p := by omega
 have hxp : p < W3.heap.size := by omega
 have hqw : w.heap.size < q := by omega
 have hrw : w.heap.size < r := by omega
 have n1 := HR.out.cell 1
 simp only [List.getElem?_toArray, List.getElem?_cons_succ, List.getElem?_cons_zero] at n1
 obtain ⟨m0', m1', m2', _⟩ := HQ.out.cells
 have Hr' := zH hr'
 have HO := zH hO
 clear k kk hr hX m0 m1 m2 HL hXS hr' hO hs4
 by_cases hx0 : 0 < XS.length
 ·
  have hd : decide ((XS.length : Int) > 0) = true := by rw [decide_eq_true_iff]; omega
  go_wp2_with fail
  rw [Hr'.out, ← HO.out]
  generalize w4.alloc O = W5 at *
  refine (spec_l1Once w.heap.size p a len cap 4 (by decide) (by decide) W5 hbp HU.out (Hc.out.below HB.out)).mono ?_
  rintro e w6 ⟨b, rfl, hc6, ho6⟩
  replace HU := zH hc6
  replace HAB := zH (HAB.out.only ho6 (by omega))
  replace HCC : Hid (OwnRats w1.heap.size _ _ _) := (OwnRats.only HCC.out ho6 (by omega))
  replace HX : Hid (OwnRats W3.heap.size _ _ _) := (OwnRats.only HX.out ho6 (by omega))
  replace HQ := zH (show Tri w6 q vA vB (.slice cc C.length cC) 28 from (ho6.block hqp (lt_of_at HQ.out)).trans HQ.out)
  replace HT := zH (show Tri w6 w.heap.size (.slice none 0 0) (.slice none 0 0) (.slice none 0 0) 28 from (ho6.block (by omega) (lt_of_at HT.out)).trans HT.out)
  replace HR := zH (HR.out.only ho6 hrp)
  replace HB := zH (HB.out.trans (ho6.below hbp))
  clear hc6 ho6 n1 m0' m1' m2'
  rcases b with _ | _
  ·
   have hbb : True := trivial
   obtain ⟨m0, m1, m2, _⟩ := HQ.out.cells
   have n1 := HR.out.cell 1
   simp only [List.getElem?_toArray, List.getElem?_cons_succ, List.getElem?_cons_zero] at n1
   obtain ⟨_, _, _, y0, y1, y2⟩ := HT.out.cells
   have hQs := ((HQ.out.other (p := ⟨w.heap.size, 0, none⟩) (show w.heap.size ≠ q by omega) vA).other (p := ⟨w.heap.size, 1, none⟩) (show w.heap.size ≠ q by omega) vB).other (p := ⟨w.heap.size, 2, none⟩) (show w.heap.size ≠ q by omega) (.slice cc C.length cC)
   have hRs := ((HR.out.other (p := ⟨w.heap.size, 0, none⟩) (show w.heap.size ≠ r by omega) vA).other (p := ⟨w.heap.size, 1, none⟩) (show w.heap.size ≠ r by omega) vB).other (p := ⟨w.heap.size, 2, none⟩) (show w.heap.size ≠ r by omega) (.slice cc C.length cC)
   have HQs := zH (And.intro hQs.cells (hRs.cell 1))
   clear hQs hRs
   have tA := sto HOne.out.1
   have tB := sto HOne.out.2
   go_upto_region 5 with fail
   refine wp_region_held_drew (S := fun w' => w'.cell? ⟨q, 0, none⟩ = some vA ∧ w'.cell? ⟨q, 1, none⟩ = some vB ∧ w'.cell? ⟨q, 2, none⟩ = some (.slice cc C.length cC) ∧ w'.cell? ⟨r, 1, none⟩ = some (.slice ax XS.length cx)) (by kernel_rfl) ?_ (fun hHeld => ?_)
   ·
    exact ⟨m0, m1, m2, n1⟩
   refine tk1 0 ⟨some 22, .load 28 (.tmp 5), 28, "l05_lp.go:188", #[], none⟩ ?_
   refine tk1 1 ⟨some 23, .fieldAddr 32 (.tmp 6) 1, 0, "l05_lp.go:188", #[⟨3, .gcOnly .lateStores⟩], none⟩ ?_
   refine tk1 2 ⟨some 24, .load 26 (.tmp 23), 26, "l05_lp.go:188", #[⟨1, .data⟩, ⟨3, .gcOnly .lateStores⟩], none⟩ ?_
   try simp only [Act.put, zA, zB, zC]
   refine rd1 3 ⟨none, .store 28 (.tmp 2) (.tmp 22), 0, "l05_lp.go:188", #[⟨0, .data⟩, ⟨0, .phase⟩, ⟨1, .textOnly .lateStores⟩, ⟨2, .textOnly .lateStores⟩], none⟩ fun K hK => ?_
   go_simp
   skip
   refine hK.out _ _ ?_ (fun hHeld => ?_)
   ·
    exact ⟨HQs.out.1.1, HQs.out.1.2.1, HQs.out.1.2.2.1, HQs.out.2⟩
   clear hK K
   refine tk1 4 ⟨some 3, .assign (.tmp 24), 26, "l05_lp.go:188", #[⟨2, .data⟩, ⟨3, .chain⟩, ⟨0, .phase⟩, ⟨1, .phase⟩, ⟨2, .phase⟩, ⟨3, .phase⟩], none⟩ ?_
   try simp only [Act.put, zA, zB, zC]
   refine wpAnyH_done (by kernel_rfl) ?_ _
   have HTW := HT.out
   have HABW := HAB.out
   have HCCW := HCC.out
   have HXW := HX.out
   have HBW := HB.out
   have HTf := zH (((HTW.set0 vA).set1 vB).set2 (.slice cc C.length cC))
   have hd := lp_done HABW HCCW HXW HTW vA vB (.slice cc C.length cC)
   have HD := zH hd
   have HBf := zH (((HBW.setCell (p := ⟨w.heap.size, 0, none⟩) (Nat.le_refl _) vA).setCell (p := ⟨w.heap.size, 1, none⟩) (Nat.le_refl _) vB).setCell (p := ⟨w.heap.size, 2, none⟩) (Nat.le_refl _) (.slice cc C.length cC))
   clear hd
   go_wp2_with fail
   refine bodyPost_ret (v := .tuple #[.agg #[vA, vB, .slice cc C.length cC], .slice ax XS.length cx]) (by
    obtain ⟨z0, z1, z2, _⟩ := HTf.out.cells
    revert z0 z1 z2
    generalize (World.setCell _ (⟨w.heap.size, 2, none⟩ : Addr) (.slice cc C.length cC)) = W4
    intro z0 z1 z2
    simp [results, Tryz.results12, go_sem, z0, z1, z2]) rfl ⟨_, _, _, _, ⟨A, Bv, C⟩, XS, rfl, HD.out.1.up (Below.refl _ _).drew, hF.out, HD.out.2.up (Below.refl _ _).drew, by omega, HBf.out.drew⟩
  ·
   have hbb : True := trivial
   obtain ⟨m0, m1, m2, _⟩ := HQ.out.cells
   have ho0 : Only p w6 w6.drew := (Only.refl p w6).drew
   have Cell := zH (fun w' (h : Only p w6 w') => (show w'.cell? ⟨q, 0, none⟩ = some vA ∧ w'.cell? ⟨q, 1, none⟩ = some vB ∧ w'.cell? ⟨q, 2, none⟩ = some (.slice cc C.length cC) from ⟨h.cell (a := ⟨q, 0, none⟩) hqp m0, h.cell (a := ⟨q, 1, none⟩) hqp m1, h.cell (a := ⟨q, 2, none⟩) hqp m2⟩))
   go_upto_region 6 with fail
   have tA := sto HOne.out.1
   have tB := sto HOne.out.2
   refine wp_region_T_drew (S := (fun w' => w'.cell? ⟨q, 0, none⟩ = some vA ∧ w'.cell? ⟨q, 1, none⟩ = some vB ∧ w'.cell? ⟨q, 2, none⟩ = some (.slice cc C.length cC))) 6 (by kernel_rfl) ?_ (fun hHeld => ?_)
   ·
    exact Cell.out _ ho0
   refine tk2 0 ⟨some 25, .load 28 (.tmp 5), 28, "l05_lp.go:190", #[], none⟩ ?_
   refine tk2 1 ⟨some 26, .move (.tmp 4), 51, "l05_lp.go:190", #[], none⟩ ?_
   refine tk2 2 ⟨some 27, .fieldAddr 28 (.tmp 5) 2, 0, "l05_lp.go:190", #[], none⟩ ?_
   refine tk2 3 ⟨some 28, .load 26 (.tmp 27), 26, "l05_lp.go:190", #[⟨2, .data⟩], none⟩ ?_
   refine tk2 4 ⟨some 29, .call { callee := .builtin Builtin.len, args := #[.tmp 28], argTypes := #[26] }, 3, "l05_lp.go:190", #[⟨3, .data⟩], none⟩ ?_
   try simp only [Act.put, zA, zB, zC]
   refine rd2 5 ⟨some 30, .call { callee := .value (.func 41), args := #[.tmp 26, .tmp 29], argTypes := #[51, 3] }, 26, "l05_lp.go:190", #[⟨1, .data⟩, ⟨4, .data⟩], none⟩ fun K hK => ?_
   go_simp
   (refine (spec_l4DrawI w.heap.size p C.length _ rfl (by omega) a len cap _ hbp (show Cur w6.drew p a len cap from HU.out) (Hc.out.below HB.out.drew)).mono ?_; rintro e w7 ⟨v7, x7, rfl, hxl, hx7, hc7, ho7⟩; have ho8 := ho0.trans ho7)
   refine hK.out _ _ ?_ (fun hHeld => ?_)
   ·
    exact Cell.out _ ho8
   clear hK K
   try simp only [Act.put, zA, zB, zC]
   have hT7 : Tri w7 w.heap.size (.slice none 0 0) (.slice none 0 0) (.slice none 0 0) 28 := (ho8.block (by omega) (lt_of_at HT.out)).trans HT.out
   obtain ⟨_, _, _, y0, y1, y2⟩ := hT7.cells
   refine rd3 6 ⟨none, .store 28 (.tmp 2) (.tmp 25), 0, "l05_lp.go:190", #[⟨0, .data⟩, ⟨5, .chain⟩, ⟨0, .phase⟩, ⟨1, .textOnly .lateStores⟩, ⟨2, .textOnly .lateStores⟩, ⟨3, .textOnly .lateStores⟩, ⟨4, .textOnly .lateStoresUnsure⟩, ⟨5, .textOnly .lateStoresUnsure⟩], none⟩ fun K hK => ?_
   go_simp
   refine hK.out _ _ ?_
   clear hK K
   refine rd3 7 ⟨some 3, .assign (.tmp 30), 26, "l05_lp.go:190", #[⟨5, .data⟩, ⟨6, .chain⟩, ⟨0, .phase⟩, ⟨1, .phase⟩, ⟨2, .phase⟩, ⟨3, .phase⟩, ⟨4, .phase⟩, ⟨5, .phase⟩, ⟨6, .phase⟩], none⟩ fun K hK => ?_
   go_simp
   refine hK.out _ _ ?_
   clear hK K
   try simp only [Act.put, zA, zB, zC]
   refine wpAnyT_done (by kernel_rfl) ?_ _
   have HTW := hT7
   have HABW := HAB.out.only ho8 (by omega)
   have HCCW := OwnRats.only HCC.out ho8 (by omega)
   have HXW := hx7
   have HBW := HB.out.trans (ho8.below hbp)
   clear hc7 ho7
   have HTf := zH (((HTW.set0 vA).set1 vB).set2 (.slice cc C.length cC))
   have hd := lp_done HABW HCCW HXW HTW vA vB (.slice cc C.length cC)
   have HD := zH hd
   have HBf := zH (((HBW.setCell (p := ⟨w.heap.size, 0, none⟩) (Nat.le_refl _) vA).setCell (p := ⟨w.heap.size, 1, none⟩) (Nat.le_refl _) vB).setCell (p := ⟨w.heap.size, 2, none⟩) (Nat.le_refl _) (.slice cc C.length cC))
   clear hd
   go_wp2_with fail
   refine bodyPost_ret (v := .tuple #[.agg #[vA, vB, .slice cc C.length cC], v7]) (by
    obtain ⟨z0, z1, z2, _⟩ := HTf.out.cells
    revert z0 z1 z2
    generalize (World.setCell _ (⟨w.heap.size, 2, none⟩ : Addr) (.slice cc C.length cC)) = W4
    intro z0 z1 z2
    simp [results, Tryz.results12, go_sem, z0, z1, z2]) rfl ⟨_, _, _, _, ⟨A, Bv, C⟩, x7, rfl, HD.out.1, hF.out, HD.out.2, by omega, HBf.out⟩
 ·
  have hd : decide ((XS.length : Int) > 0) = false := by rw [decide_eq_false_iff_not]; omega
  clear m0' m1' m2'
  obtain ⟨m0, m1, m2, _⟩ := HQ.out.cells
  have ho0 : Only p (w4.alloc O) (w4.alloc O).drew := (Only.refl p (w4.alloc O)).drew
  have Cell := zH (fun w' (h : Only p (w4.alloc O) w') => (show w'.cell? ⟨q, 0, none⟩ = some vA ∧ w'.cell? ⟨q, 1, none⟩ = some vB ∧ w'.cell? ⟨q, 2, none⟩ = some (.slice cc C.length cC) from ⟨h.cell (a := ⟨q, 0, none⟩) hqp m0, h.cell (a := ⟨q, 1, none⟩) hqp m1, h.cell (a := ⟨q, 2, none⟩) hqp m2⟩))
  go_upto_region 6 with fail
  try rw [Hr'.out, ← HO.out]
  have tA := sto HOne.out.1
  have tB := sto HOne.out.2
  refine wp_region_T_drew (S := (fun w' => w'.cell? ⟨q, 0, none⟩ = some vA ∧ w'.cell? ⟨q, 1, none⟩ = some vB ∧ w'.cell? ⟨q, 2, none⟩ = some (.slice cc C.length cC))) 6 (by kernel_rfl) ?_ (fun hHeld => ?_)
  ·
   exact Cell.out _ ho0
  refine tk2 0 ⟨some 25, .load 28 (.tmp 5), 28, "l05_lp.go:190", #[], none⟩ ?_
  refine tk2 1 ⟨some 26, .move (.tmp 4), 51, "l05_lp.go:190", #[], none⟩ ?_
  refine tk2 2 ⟨some 27, .fieldAddr 28 (.tmp 5) 2, 0, "l05_lp.go:190", #[], none⟩ ?_
  refine tk2 3 ⟨some 28, .load 26 (.tmp 27), 26, "l05_lp.go:190", #[⟨2, .data⟩], none⟩ ?_
  refine tk2 4 ⟨some 29, .call { callee := .builtin Builtin.len, args := #[.tmp 28], argTypes := #[26] }, 3, "l05_lp.go:190", #[⟨3, .data⟩], none⟩ ?_
  try simp only [Act.put, zA, zB, zC]
  refine rd2 5 ⟨some 30, .call { callee := .value (.func 41), args := #[.tmp 26, .tmp 29], argTypes := #[51, 3] }, 26, "l05_lp.go:190", #[⟨1, .data⟩, ⟨4, .data⟩], none⟩ fun K hK => ?_
  go_simp
  (refine (spec_l4DrawI w.heap.size p C.length _ rfl (by omega) a len cap _ hbp (show Cur (w4.alloc O).drew p a len cap from HU.out) (Hc.out.below HB.out.drew)).mono ?_; rintro e w7 ⟨v7, x7, rfl, hxl, hx7, hc7, ho7⟩; have ho8 := ho0.trans ho7)
  refine hK.out _ _ ?_ (fun hHeld => ?_)
  ·
   exact Cell.out _ ho8
  clear hK K
  try simp only [Act.put, zA, zB, zC]
  have hT7 : Tri w7 w.heap.size (.slice none 0 0) (.slice none 0 0) (.slice none 0 0) 28 := (ho8.block (by omega) (lt_of_at HT.out)).trans HT.out
  obtain ⟨_, _, _, y0, y1, y2⟩ := hT7.cells
  refine rd3 6 ⟨none, .store 28 (.tmp 2) (.tmp 25), 0, "l05_lp.go:190", #[⟨0, .data⟩, ⟨5, .chain⟩, ⟨0, .phase⟩, ⟨1, .textOnly .lateStores⟩, ⟨2, .textOnly .lateStores⟩, ⟨3, .textOnly .lateStores⟩, ⟨4, .textOnly .lateStoresUnsure⟩, ⟨5, .textOnly .lateStoresUnsure⟩], none⟩ fun K hK => ?_
  go_simp
  refine hK.out _ _ ?_
  clear hK K
  refine rd3 7 ⟨some 3, .assign (.tmp 30), 26, "l05_lp.go:190", #[⟨5, .data⟩, ⟨6, .chain⟩, ⟨0, .phase⟩, ⟨1, .phase⟩, ⟨2, .phase⟩, ⟨3, .phase⟩, ⟨4, .phase⟩, ⟨5, .phase⟩, ⟨6, .phase⟩], none⟩ fun K hK => ?_
  go_simp
  refine hK.out _ _ ?_
  clear hK K
  try simp only [Act.put, zA, zB, zC]
  refine wpAnyT_done (by kernel_rfl) ?_ _
  have HTW := hT7
  have HABW := HAB.out.only ho8 (by omega)
  have HCCW := OwnRats.only HCC.out ho8 (by omega)
  have HXW := hx7
  have HBW := HB.out.trans (ho8.below hbp)
  clear hc7 ho7
  have HTf := zH (((HTW.set0 vA).set1 vB).set2 (.slice cc C.length cC))
  have hd := lp_done HABW HCCW HXW HTW vA vB (.slice cc C.length cC)
  have HD := zH hd
  have HBf := zH (((HBW.setCell (p := ⟨w.heap.size, 0, none⟩) (Nat.le_refl _) vA).setCell (p := ⟨w.heap.size, 1, none⟩) (Nat.le_refl _) vB).setCell (p := ⟨w.heap.size, 2, none⟩) (Nat.le_refl _) (.slice cc C.length cC))
  clear hd
  go_wp2_with fail
  refine bodyPost_ret (v := .tuple #[.agg #[vA, vB, .slice cc C.length cC], v7]) (by
   obtain ⟨z0, z1, z2, _⟩ := HTf.out.cells
   revert z0 z1 z2
   generalize (World.setCell _ (⟨w.heap.size, 2, none⟩ : Addr) (.slice cc C.length cC)) = W4
   intro z0 z1 z2
   simp [results, Tryz.results12, go_sem, z0, z1, z2]) rfl ⟨_, _, _, _, ⟨A, Bv, C⟩, x7, rfl, HD.out.1, hF.out, HD.out.2, by omega, HBf.out⟩
end Go.Proofs.YtmjmjilpcekngaaGreat

namespace Go.Proofs.YtmjmjilpcekngaaGreat
open Go.RowKit
open Ve (R)
open Ta (T)
open Lp (P Res)
def DrewRes (pc : Nat) (a : Option Addr) (len cap : Nat) (w : World) (e : Ending) (w' : World) : Prop :=
 ∃ (u0 u1 u2 u3 u4 u5 u6 : Value) (r : Res), e = .returned (.agg #[u0, u1, u2, u3, u4, u5, u6]) ∧ ResC w' u0 u1 u2 u3 u4 u5 u6 r ∧ (OwnRats w.heap.size w' u1 r.X ∧ OwnRats w.heap.size w' u2 r.Y ∧ OwnRats w.heap.size w' u3 r.ray) ∧ ResFits r ∧ (0 ≤ r.status ∧ r.status ≤ 4) ∧ Cur w' pc a len cap ∧ Only pc w w'
theorem solve_status (p : P) : 0 ≤ (Ta.solve p).status ∧ (Ta.solve p).status ≤ 4 := by
 rcases Ta.solve_chk p with h | ⟨_, h⟩ | ⟨_, h⟩
 ·
  obtain ⟨_, h1⟩ := Lp.chk_parts h
  rcases h1 with ⟨e, _⟩ | ⟨e, _⟩ | ⟨e, _⟩ <;> omega
 ·
  rw [h]; decide
 ·
  rw [h]; decide
theorem res_done {lo1 lo2 lo3 s : Nat} {w : World} {a b c : Option Addr} {c1 c2 c3 : Nat} {r : Res} (hX : OwnRats lo1 w (.slice a r.X.length c1) r.X) (hY : OwnRats lo2 w (.slice b r.Y.length c2) r.Y) (hZ : OwnRats lo3 w (.slice c r.ray.length c3) r.ray)
  (h1 : s < lo1) (h2 : s < lo2) (h3 : s < lo3) (y0 y1 y2 y3 y4 y5 y6 : Value) :
  ResC (sets7 w s y0 y1 y2 y3 y4 y5 y6) (.int .i64 r.status) (.slice a r.X.length c1) (.slice b r.Y.length c2) (.slice c r.ray.length c3) (.int .i64 r.value.1) (.int .i64 r.value.2) (.int .i64 r.pivots) r :=
 ⟨a, b, c, c1, c2, c3, rfl, rfl, rfl, rfl, rfl, rfl, rfl, ⟨(own_readsR (sets7_own hX h1 y0 y1 y2 y3 y4 y5 y6)).2, (own_readsR (sets7_own hY h2 y0 y1 y2 y3 y4 y5 y6)).2, (own_readsR (sets7_own hZ h3 y0 y1 y2 y3 y4 y5 y6)).2⟩⟩
theorem cur_sets7 {w : World} {p s : Nat} {a : Option Addr} {len cap : Nat} (h : Cur w p a len cap) (hne : p ≠ s) (y0 y1 y2 y3 y4 y5 y6 : Value) : Cur (sets7 w s y0 y1 y2 y3 y4 y5 y6) p a len cap :=
 ((((((h.setOwn hne 0 y0).setOwn hne 1 y1).setOwn hne 2 y2).setOwn hne 3 y3).setOwn hne 4 y4).setOwn hne 5 y5).setOwn hne 6 y6
theorem gr_cells {w w' : World} {row : Option Nat} {q : Nat} {cs : Array Value} {t : TypeId} (hg : w.grownBy w' row) (h : CellsAt w q cs t) (hne : row ≠ some q) : CellsAt w' q cs t := (hg.block q (lt_of_at h) (fun e => hne e.symm)).trans h
theorem gr_at {w w' : World} {row : Option Nat} {q : Nat} {cs : Array Value} {t : TypeId} (hg : w.grownBy w' row) (h : CellsAt w q cs t) (hne : row ≠ some q) (i : Nat) : w'.cell? ⟨q, i, none⟩ = cs[i]? := (gr_cells hg h hne).cell i
theorem run1_small {p : P} {r : Res} (hv : Lp.vldP p = true) (h : Ta.run1 p = some r) : resN r ≤ 1000 := by
 obtain ⟨_, hC, hA, _, _, _⟩ := Lp.vld_parts hv
 rcases h1 : Ta.ph (Ta.cost1 p) (Ta.start p, 0) with _ | ⟨s1, c1, k1⟩
 ·
  rw [run_a h1] at h; cases h
 ·
  by_cases hs : Ta.sgn (Ta.lastR c1) < 0
  ·
   rw [run_b h1 hs] at h
   injection h with h
   subst h
   simp [resN, Ta.dualR]
   omega
  ·
   have hs' : 0 ≤ Ta.sgn (Ta.lastR c1) := by omega
   rcases h2 : Ta.drive s1 p.A.length with _ | s2
   ·
    rw [run_c h1 hs' h2] at h; cases h
   ·
    rcases h3 : Ta.ph (Ta.cost2 p) s2 with _ | ⟨s3, c3, k3⟩
    ·
     rw [run_d h1 hs' h2 h3] at h; cases h
    ·
     have hS3 := (Ta.ph_ends (Ta.drive_ends (Ta.ph_ends (Ta.same_start hv) h1).1 h2) h3).1
     obtain ⟨_, _, hc0, hc70, _⟩ := same_fits (t := s3.1) (n := s3.2) hv hS3
     have hx : (Ta.xR s3.1).length ≤ 70 := by unfold Ta.xR; rw [List.length_take]; omega
     by_cases hk : 0 ≤ k3
     ·
      rw [run_e h1 hs' h2 h3 hk] at h
      injection h with h
      subst h
      simp only [resN, Ta.rayAt_len, List.length_nil]
      omega
     ·
      rw [run_f h1 hs' h2 h3 hk] at h
      injection h with h
      subst h
      have hd : (Ta.dualR p c3 0).length = p.A.length := by simp [Ta.dualR]
      simp only [resN, hd, List.length_nil]
      omega
theorem solve_small (p : P) : resN (Ta.solve p) ≤ 1000 := by
 rcases hv : Lp.vldP p with _ | _
 ·
  rw [solve_no hv]; simp [resN]
 ·
  rcases hr : Ta.run1 p with _ | r
  ·
   rw [solve_lim hv hr]; simp [resN]
  ·
   rcases hc : Lp.chk p r with _ | _
   ·
    rw [solve_chk_no hv hr hc]; simp [resN]
   ·
    rw [solve_chk_yes hv hr hc]; exact run1_small hv hr
set_option maxHeartbeats 8000000 in
theorem spec_l5Result (B pc : Nat) (hB : B ≤ pc) (a : Option Addr) (len cap : Nat) {w : World} {x y z : Value} {p : P} (h : LpC w x y z p) (hn : LpFits p) (hcur : Cur w pc a len cap) (hcode : CodeAt B w a len) :
  Calls Tryz.prog 26 #[.pointer (some ⟨pc, 0, none⟩), .agg #[x, y, z]] w (DrewRes pc a len cap w) := by
 have hp := hcur.lt
 obtain ⟨O1, hO1⟩ : ∃ O, O = Obj.cells #[x, y, z] 28 := ⟨_, rfl⟩
 obtain ⟨O2, hO2⟩ : ∃ O, O = Obj.cells #[.int .i64 0, .slice none 0 0, .slice none 0 0, .slice none 0 0, .int .i64 0, .int .i64 0, .int .i64 0] 32 := ⟨_, rfl⟩
 obtain ⟨W0, hW0⟩ : ∃ W, W = (w.alloc O1).alloc O2 := ⟨_, rfl⟩
 have hs0 : W0.heap.size = w.heap.size + 2 := by rw [hW0]; exact size2 w O1 O2
 have hb0 : Below w.heap.size w W0 := by rw [hW0]; exact ((Below.refl _ _).alloc (Nat.le_refl _) O1).alloc (by rw [size1]; omega) O2
 have hT : Tri W0 w.heap.size x y z 28 := by rw [hW0, hO1]; exact (Tri.new w x y z _).more O2
 have hS : CellsAt W0 (w.heap.size + 1) #[.int .i64 0, .slice none 0 0, .slice none 0 0, .slice none 0 0, .int .i64 0, .int .i64 0, .int .i64 0] 32 := by
  have := CellsAt.new (w.alloc O1) #[.int .i64 0, .slice none 0 0, .slice none 0 0, .slice none 0 0, .int .i64 0, .int .i64 0, .int .i64 0] 32
  rw [size1] at this
  rw [hW0, hO2]; exact this
 have ho0 : Only pc w W0 := only_of hb0 (Nat.le_of_lt hp)
 have HU0 := zH (hcur.below hb0)
 have HO0 := zH ho0
 have HS0 := zH hS
 have HC := zH (hcode.below (ho0.below hB))
 have Hcode := zH hcode
 have HSol := zH (spec_Solve_c (h.up hb0) hn)
 have hst0 := solve_status p
 have hfit : resN (Ta.solve p) ≤ 1000 := solve_small p
 obtain ⟨S, hSe⟩ : ∃ S, Ta.solve p = S := ⟨_, rfl⟩
 rw [hSe] at HSol hst0 hfit
 obtain ⟨st, X, Y, Z, ⟨nu, de⟩, pv⟩ := S
 simp only at hst0
 have hN : X.length + Y.length + Z.length ≤ 1000 := hfit
 have HO1 := zH hO1
 have HO2 := zH hO2
 have HW := zH hW0
 have Hsz := zH hs0
 obtain ⟨m0, m1, m2, _⟩ := hT.cells
 clear hcur hcode h hn hb0 hT hS ho0 hSe hfit hO1 hO2 hW0
 go_enter Tryz.func26, Tryz.ntmps26
 go_wp2_with fail
 rw [← HO1.out, ← HO2.out, ← HW.out]
 clear HO1 HO2 HW
 refine HSol.out.mono ?_
 rintro e w1 ⟨⟨u0, u1, u2, u3, u4, u5, u6, rfl, hr, hX, hY, hZ, hap⟩, k⟩
 obtain ⟨aX, aY, aZ, c1, c2, c3, rfl, rfl, rfl, rfl, rfl, rfl, rfl, _⟩ := hr
 simp only at hX hY hZ hap ⊢
 have hs1 := k.size
 have hXb := zH (fun g hg => (World.ownsRow.lt hX g hg).2)
 have hYb := zH (fun g hg => (World.ownsRow.lt hY g hg).2)
 have hZb := zH (fun g hg => (World.ownsRow.lt hZ g hg).2)
 have HAp := zH hap
 obtain ⟨O3, hO3⟩ : ∃ O, O = Obj.cells #[.int .i64 st, .slice aX X.length c1, .slice aY Y.length c2, .slice aZ Z.length c3, .int .i64 nu, .int .i64 de, .int .i64 pv] 32 := ⟨_, rfl⟩
 obtain ⟨W1, hW1⟩ : ∃ W, W = w1.alloc O3 := ⟨_, rfl⟩
 obtain ⟨r, hr'⟩ : ∃ r, r = w1.heap.size := ⟨_, rfl⟩
 have hk1 : Below W0.heap.size W0 W1 := by rw [hW1]; exact k.alloc k.size O3
 have HX1 : Hid (OwnRats W0.heap.size W1 (.slice aX X.length c1) X) := by rw [hW1]; exact hX.alloc O3
 have HY1 : Hid (OwnRats W0.heap.size W1 (.slice aY Y.length c2) Y) := by rw [hW1]; exact hY.alloc O3
 have HZ1 : Hid (OwnRats W0.heap.size W1 (.slice aZ Z.length c3) Z) := by rw [hW1]; exact hZ.alloc O3
 have HR1 : Hid (CellsAt W1 r #[.int .i64 st, .slice aX X.length c1, .slice aY Y.length c2, .slice aZ Z.length c3, .int .i64 nu, .int .i64 de, .int .i64 pv] 32) := by rw [hW1, hr', hO3]; exact CellsAt.new w1 _ _
 have HS1 := zH (HS0.out.below hk1)
 have HU1 := zH (HU0.out.below hk1)
 have HO1 := zH (HO0.out.trans (only_of hk1 (by omega)))
 have HC1 := zH (Hcode.out.below (HO1.out.below hB))
 have hrp : r ≠ pc := by omega
 have hsr : w.heap.size + 1 < r := by omega
 rw [← hr'] at hXb hYb hZb
 have HO3 := zH hO3
 have HW1 := zH hW1
 have Hr' := zH hr'
 clear hX hY hZ hap k hk1 hO3 hW1 hr' m0 m1 m2 HS0 HU0 HO0 HC HSol
 go_wp2_with fail
 rw [← HO3.out, ← HW1.out, ← Hr'.out]
 clear HO3 HW1 Hr'
 refine (spec_l1Below B pc a len cap 8 (by decide) (by decide) W1 hB HU1.out HC1.out).mono ?_
 rintro e w2 ⟨xx, rfl, hx0, hx7, hc2, ho2⟩
 have HX2 : Hid (OwnRats W0.heap.size _ _ _) := OwnRats.only HX1.out ho2 (by omega)
 have HY2 : Hid (OwnRats W0.heap.size _ _ _) := OwnRats.only HY1.out ho2 (by omega)
 have HZ2 : Hid (OwnRats W0.heap.size _ _ _) := OwnRats.only HZ1.out ho2 (by omega)
 have HR2 := zH (HR1.out.only ho2 hrp)
 have HS2 := zH (HS1.out.only ho2 (by omega))
 have HU2 := zH hc2
 have HO2 := zH (HO1.out.trans ho2)
 clear hc2 ho2 HX1 HY1 HZ1 HR1 HS1 HU1 HO1 HC1
 by_cases h0 : xx = 0
 ·
  subst h0
  go_wp2_with fail
  refine (spec_l1Below B pc a len cap 5 (by decide) (by decide) w2 hB HU2.out (Hcode.out.below (HO2.out.below hB))).mono ?_
  rintro e w3 ⟨d, rfl, hd0, hd4, hc3, ho3⟩
  have hR3 := HR2.out.only ho3 hrp
  have f0 := (sevF hR3).1.1
  have g0 := (sevC hR3).1.1
  have HR4 : Hid (CellsAt (w3.setCell ⟨r, 0, none⟩ (.int .i64 d)) r #[.int .i64 d, .slice aX X.length c1, .slice aY Y.length c2, .slice aZ Z.length c3, .int .i64 nu, .int .i64 de, .int .i64 pv] 32) := by have := hR3.set 0 (.int .i64 d); show CellsAt _ _ _ _; simpa using this
  have HX4 : Hid (OwnRats W0.heap.size (w3.setCell ⟨r, 0, none⟩ (.int .i64 d)) (.slice aX X.length c1) X) := owns_set (OwnRats.only HX2.out ho3 (by omega)) (fun e => by have := hXb.out _ e; omega)
  have HY4 : Hid (OwnRats W0.heap.size (w3.setCell ⟨r, 0, none⟩ (.int .i64 d)) (.slice aY Y.length c2) Y) := owns_set (OwnRats.only HY2.out ho3 (by omega)) (fun e => by have := hYb.out _ e; omega)
  have HZ4 : Hid (OwnRats W0.heap.size (w3.setCell ⟨r, 0, none⟩ (.int .i64 d)) (.slice aZ Z.length c3) Z) := owns_set (OwnRats.only HZ2.out ho3 (by omega)) (fun e => by have := hZb.out _ e; omega)
  have HS4 := zH ((HS2.out.only ho3 (by omega)).other (p := ⟨r, 0, none⟩) (show r ≠ w.heap.size + 1 by omega) (.int .i64 d))
  have HU4 := zH (hc3.setOwn (k := r) (by omega) 0 (.int .i64 d))
  have HO4 := zH ((HO2.out.trans ho3).setOwn (k := r) (Nat.le_of_lt hp) (by omega) 0 (.int .i64 d))
  clear HR2 HX2 HY2 HZ2 HS2 HU2 HO2 hc3 ho3 hR3
  go_upto_region 12 with fail
  generalize w3.setCell ⟨r, 0, none⟩ (.int .i64 d) = W4 at *
  clear f0 g0
  obtain ⟨⟨b0, b1, b2, b3⟩, b4, b5, b6⟩ := sevC HR4.out
  obtain ⟨⟨d0, d1, d2, d3⟩, d4, d5, d6⟩ := sevC HS4.out
  obtain ⟨⟨e0, e1, e2, e3⟩, e4, e5, e6⟩ := sevF HS4.out
  go_wp2_with fail
  generalize hG : (World.setCell _ (⟨w.heap.size + 1, 6, none⟩ : Addr) _) = WF
  have hG2 : sets7 W4 (w.heap.size + 1) (.int .i64 d) (.slice aX X.length c1) (.slice aY Y.length c2) (.slice aZ Z.length c3) (.int .i64 nu) (.int .i64 de) (.int .i64 pv) = WF := hG
  have hF := sets7_at HS4.out (.int .i64 d) (.slice aX X.length c1) (.slice aY Y.length c2) (.slice aZ Z.length c3) (.int .i64 nu) (.int .i64 de) (.int .i64 pv)
  rw [hG2] at hF
  obtain ⟨⟨z0, z1, z2, z3⟩, z4, z5, z6⟩ := sevC hF
  refine bodyPost_ret (v := .agg #[.int .i64 d, .slice aX X.length c1, .slice aY Y.length c2, .slice aZ Z.length c3, .int .i64 nu, .int .i64 de, .int .i64 pv]) (by simp [results, Tryz.results26, go_sem, z0, z1, z2, z3, z4, z5, z6]) rfl ?_
  rw [← hG2]
  exact ⟨_, _, _, _, _, _, _, ⟨d, X, Y, Z, (nu, de), pv⟩, rfl, res_done (r := ⟨d, X, Y, Z, (nu, de), pv⟩) HX4.out HY4.out HZ4.out (by omega) (by omega) (by omega) _ _ _ _ _ _ _, ⟨(sets7_own HX4.out (by omega) _ _ _ _ _ _ _).lower (by omega), (sets7_own HY4.out (by omega) _ _ _ _ _ _ _).lower (by omega), (sets7_own HZ4.out (by omega) _ _ _ _ _ _ _).lower (by omega)⟩, resFits (by show X.length + Y.length + Z.length ≤ 1048576; omega), ⟨by show 0 ≤ (d : Int); omega, by show (d : Int) ≤ 4; omega⟩, cur_sets7 HU4.out (by omega) _ _ _ _ _ _ _, sets7_only HO4.out (Nat.le_of_lt hp) (by omega) _ _ _ _ _ _ _⟩
 ·
  by_cases h1 : xx = 1
  ·
   subst h1
   have hst3 := HR2.out
   have ho0 : Only pc w2 w2.drew := (Only.refl pc w2).drew
   have hb9 : Below w2.heap.size w2 w2.drew := (Below.refl _ _).drew
   go_upto_region 6 with fail
   refine wp_region_T_drew (S := (fun w' => w'.cell? ⟨r, 2, none⟩ = some (.slice aY Y.length c2))) 6 (by kernel_rfl) ?_ (fun hHeld => ?_)
   ·
    exact (HR2.out.below hb9).cell 2
   refine tk2 0 ⟨some 17, .fieldAddr 32 (.tmp 5) 2, 0, "l05_lp.go:200", #[], none⟩ ?_
   refine tk2 1 ⟨some 18, .load 26 (.tmp 17), 26, "l05_lp.go:200", #[⟨0, .data⟩], none⟩ ?_
   try simp only [Act.put, zA, zB, zC]
   refine rd2 2 ⟨some 19, .call { callee := .value (.func 65), args := #[.const (Value.int IntKind.i64 0)], argTypes := #[3] }, 30, "l05_lp.go:200", #[], none⟩ fun K hK => ?_
   go_simp
   (refine (spec_l3Int 0 _).mono ?_; rintro e w9 ⟨rfl, hk9⟩; have hb9' := hb9.trans (hk9.mono hb9.size))
   refine hK.out _ _ ?_ (fun hHeld => ?_)
   ·
    exact (HR2.out.below hb9').cell 2
   clear hK K
   try simp only [Act.put, zA, zB, zC]
   have hbA := hb9'.alloc hb9'.size (.cells #[.int .i64 0, .int .i64 1] 30)
   have hYA : OwnRats W0.heap.size _ _ _ := OwnRats.below HY2.out hbA
   have hone := one_rat w9 (0, 1)
   have hszA := hbA.size
   have hw0 : W0.heap.size ≤ w2.heap.size := by have := lt_of_at HR2.out; omega
   refine rd2 3 ⟨some 20, .buildSlice 26 1 #[(0, .tmp 19)], 26, "l05_lp.go:200", #[⟨2, .data⟩], none⟩ fun K hK => ?_
   go_simp
   refine hK.out _ _ ?_ (fun hHeld => ?_)
   ·
    exact (HR2.out.below hbA).cell 2
   clear hK K
   try simp only [Act.put, zA, zB, zC]
   refine rd2 4 ⟨some 21, .call { callee := .builtin Builtin.append, args := #[.tmp 18, .tmp 20], argTypes := #[26, 26] }, 26, "l05_lp.go:200", #[⟨1, .data⟩, ⟨3, .data⟩, ⟨2, .chain⟩], none⟩ fun K hK => ?_
   (refine step_append_ratsD rfl _ _ rfl W0.heap.size _ Y rfl hYA w9.heap.size 0 [(0, 1)] 1 1 rfl rfl _ hone (by simp; omega) (by omega) ?_; intro v6 w6 hown6 hgrow6)
   refine hK.out _ _ ?_ (fun hHeld => ?_)
   ·
    exact gr_at hgrow6 (HR2.out.below hbA) (fun e => by have := hYb.out _ e; omega) 2
   clear hK K
   refine tk2 5 ⟨some 22, .fieldAddr 32 (.tmp 5) 2, 0, "l05_lp.go:200", #[⟨0, .phase⟩, ⟨1, .phase⟩, ⟨2, .phase⟩, ⟨3, .phase⟩, ⟨4, .phase⟩], none⟩ ?_
   try simp only [Act.put, zA, zB, zC]
   have hap := HAp.out
   obtain ⟨Y6, hY6⟩ : ∃ Y6, Y ++ [((0 : Int), (1 : Int))] = Y6 := ⟨_, rfl⟩
   have hYl : Y6.length ≤ Y.length + 1 := by rw [← hY6]; simp
   rw [hY6] at hown6
   clear hY6
   obtain ⟨a6, c6, rfl, _⟩ := own_rats hown6
   have hR6 := gr_cells hgrow6 (HR2.out.below hbA) (fun e => by have := hYb.out _ e; omega)
   have f2 := (sevF hR6).1.2.2.1
   have g2 := (sevC hR6).1.2.2.1
   refine rd3 6 ⟨none, .store 26 (.tmp 22) (.tmp 21), 0, "l05_lp.go:200", #[⟨5, .data⟩, ⟨4, .data⟩, ⟨4, .chain⟩, ⟨0, .phase⟩, ⟨1, .phase⟩, ⟨2, .phase⟩, ⟨3, .phase⟩, ⟨4, .phase⟩], none⟩ fun K hK => ?_
   go_simp
   refine hK.out _ _ ?_
   clear hK K
   refine wpAnyT_done (by kernel_rfl) ?_ _
   have HR4 : Hid (CellsAt (w6.setCell ⟨r, 2, none⟩ (.slice a6 Y6.length c6)) r #[.int .i64 st, .slice aX X.length c1, .slice a6 Y6.length c6, .slice aZ Z.length c3, .int .i64 nu, .int .i64 de, .int .i64 pv] 32) := by have := hR6.set 2 (.slice a6 Y6.length c6); show CellsAt _ _ _ _; simpa using this
   have HX4 : Hid (OwnRats W0.heap.size (w6.setCell ⟨r, 2, none⟩ (.slice a6 Y6.length c6)) (.slice aX X.length c1) X) := owns_set (OwnRats.grown (OwnRats.below HX2.out hbA) hgrow6 (fun g hg e => (hap.1 g hg).1 e)) (fun e => by have := hXb.out _ e; omega)
   have HZ4 : Hid (OwnRats W0.heap.size (w6.setCell ⟨r, 2, none⟩ (.slice a6 Y6.length c6)) (.slice aZ Z.length c3) Z) := owns_set (OwnRats.grown (OwnRats.below HZ2.out hbA) hgrow6 (fun g hg e => hap.2 g e hg)) (fun e => by have := hZb.out _ e; omega)
   have HY4 : Hid (OwnRats W0.heap.size (w6.setCell ⟨r, 2, none⟩ (.slice a6 Y6.length c6)) (.slice a6 Y6.length c6) Y6) := owns_set hown6 (own_away hown6 hR6.ty (by decide))
   have hYlo : ∀ g, (Value.slice aY Y.length c2).ownBlock = some g → W0.heap.size ≤ g := fun g hg => (World.ownsRow.lt hYA g hg).1
   have HS4 := zH ((gr_cells hgrow6 (HS2.out.below hbA) (fun e => by have := hYlo _ e; omega)).other (p := ⟨r, 2, none⟩) (show r ≠ w.heap.size + 1 by omega) (.slice a6 Y6.length c6))
   have HU4 := zH (((HU2.out.below hbA).grown hgrow6 (fun e => by have := hYlo _ e; omega)).setOwn (k := r) (by omega) 2 (.slice a6 Y6.length c6))
   have HO4 := zH (((HO2.out.trans (only_of hbA (by have := HO2.out.low.size; omega))).grown (Nat.le_of_lt hp) hgrow6 (fun g hg => by have := hYlo g hg; omega)).setOwn (k := r) (Nat.le_of_lt hp) (by omega) 2 (.slice a6 Y6.length c6))
   have hwA : W0.heap.size ≤ w6.heap.size := by have := hgrow6.size; omega
   clear HR2 HX2 HY2 HZ2 HS2 HU2 HO2 hR6 f2 g2 hown6 hgrow6 hYA hbA hone hap
   go_upto_region 12 with fail
   generalize w6.setCell ⟨r, 2, none⟩ (.slice a6 Y6.length c6) = W4 at *
   obtain ⟨⟨b0, b1, b2, b3⟩, b4, b5, b6⟩ := sevC HR4.out
   obtain ⟨⟨d0, d1, d2, d3⟩, d4, d5, d6⟩ := sevC HS4.out
   obtain ⟨⟨e0, e1, e2, e3⟩, e4, e5, e6⟩ := sevF HS4.out
   go_wp2_with fail
   generalize hG : (World.setCell _ (⟨w.heap.size + 1, 6, none⟩ : Addr) _) = WF
   have hG2 : sets7 W4 (w.heap.size + 1) (.int .i64 st) (.slice aX X.length c1) (.slice a6 Y6.length c6) (.slice aZ Z.length c3) (.int .i64 nu) (.int .i64 de) (.int .i64 pv) = WF := hG
   have hF := sets7_at HS4.out (.int .i64 st) (.slice aX X.length c1) (.slice a6 Y6.length c6) (.slice aZ Z.length c3) (.int .i64 nu) (.int .i64 de) (.int .i64 pv)
   rw [hG2] at hF
   obtain ⟨⟨z0, z1, z2, z3⟩, z4, z5, z6⟩ := sevC hF
   refine bodyPost_ret (v := .agg #[.int .i64 st, .slice aX X.length c1, .slice a6 Y6.length c6, .slice aZ Z.length c3, .int .i64 nu, .int .i64 de, .int .i64 pv]) (by simp [results, Tryz.results26, go_sem, z0, z1, z2, z3, z4, z5, z6]) rfl ?_
   rw [← hG2]
   exact ⟨_, _, _, _, _, _, _, ⟨st, X, Y6, Z, (nu, de), pv⟩, rfl, res_done (r := ⟨st, X, Y6, Z, (nu, de), pv⟩) HX4.out HY4.out HZ4.out (by omega) (by omega) (by omega) _ _ _ _ _ _ _, ⟨(sets7_own HX4.out (by omega) _ _ _ _ _ _ _).lower (by omega), (sets7_own HY4.out (by omega) _ _ _ _ _ _ _).lower (by omega), (sets7_own HZ4.out (by omega) _ _ _ _ _ _ _).lower (by omega)⟩, resFits (by show X.length + Y6.length + Z.length ≤ 1048576; omega), ⟨by show 0 ≤ (st : Int); omega, by show (st : Int) ≤ 4; omega⟩, cur_sets7 HU4.out (by omega) _ _ _ _ _ _ _, sets7_only HO4.out (Nat.le_of_lt hp) (by omega) _ _ _ _ _ _ _⟩
  ·
   by_cases h2 : xx = 2
   ·
    subst h2
    obtain ⟨⟨b0, b1, b2, b3⟩, b4, b5, b6⟩ := sevC HR2.out
    by_cases hy : 0 < Y.length
    ·
     have hd : decide ((Y.length : Int) > 0) = true := by rw [decide_eq_true_iff]; omega
     obtain ⟨g, rfl, _, hg0, hg1⟩ := OwnRats.block HY2.out (by omega)
     have ho0 : Only pc w2 w2.drew := (Only.refl pc w2).drew
     have hgr : g ≠ r := fun e => by have := hYb.out g rfl; omega
     go_upto_region 9 with fail
     refine wp_region_T_drew (S := (fun w' => w'.cell? ⟨r, 2, none⟩ = some (.slice (some ⟨g, 0, none⟩) Y.length c2))) 5 (by kernel_rfl) ?_ (fun hHeld => ?_)
     ·
      exact b2
     refine tk2 0 ⟨some 29, .fieldAddr 32 (.tmp 5) 2, 0, "l05_lp.go:203", #[], none⟩ ?_
     refine tk2 1 ⟨some 30, .load 26 (.tmp 29), 26, "l05_lp.go:203", #[⟨0, .data⟩], none⟩ ?_
     refine tk2 2 ⟨some 31, .move (.tmp 0), 51, "l05_lp.go:203", #[], none⟩ ?_
     try simp only [Act.put, zA, zB, zC]
     refine rd2 3 ⟨some 32, .call { callee := .value (.func 66), args := #[.tmp 31], argTypes := #[51] }, 30, "l05_lp.go:203", #[⟨2, .data⟩], none⟩ fun K hK => ?_
     go_simp
     (refine (spec_l3Draw B pc a len cap w2.drew hB (show Cur w2.drew pc a len cap from HU2.out) (Hcode.out.below (HO2.out.drew.below hB))).mono ?_; rintro e w6 ⟨dn, dd, rfl, hc6, ho6⟩; have ho7 := ho0.trans ho6)
     refine hK.out _ _ ?_ (fun hHeld => ?_)
     ·
      exact (HR2.out.only ho7 hrp).cell 2
     clear hK K
     refine tk2 4 ⟨some 33, .indexAddr 26 (.tmp 30) (.const (Value.int IntKind.i64 0)), 0, "l05_lp.go:203", #[⟨1, .data⟩, ⟨0, .phase⟩, ⟨1, .phase⟩, ⟨2, .phase⟩, ⟨3, .phase⟩], none⟩ ?_
     try simp only [Act.put, zA, zB, zC]
     have hY6 : OwnRats W0.heap.size w6 _ _ := OwnRats.only HY2.out ho7 (by omega)
     obtain ⟨⟨v0, s0⟩, s1, ⟨v1, s2⟩, s3⟩ := OwnRats.spots hY6 0 hy
     rw [Nat.zero_mul] at s0 s1 s2 s3
     refine rd3 5 ⟨none, .store 30 (.tmp 33) (.tmp 32), 0, "l05_lp.go:203", #[⟨4, .data⟩, ⟨3, .data⟩, ⟨3, .chain⟩, ⟨0, .phase⟩, ⟨1, .phase⟩, ⟨2, .phase⟩, ⟨3, .phase⟩], none⟩ fun K hK => ?_
     go_simp
     refine hK.out _ _ ?_
     clear hK K
     refine wpAnyT_done (by kernel_rfl) ?_ _
     have hY7 := OwnRats.put hY6 0 (dn, dd) hy
     have hap := HAp.out
     obtain ⟨Y6, hY6e⟩ : ∃ Y6, Y.set 0 (dn, dd) = Y6 := ⟨_, rfl⟩
     have hYl : Y6.length = Y.length := by rw [← hY6e]; simp
     rw [hY6e] at hY7
     obtain ⟨W4, hW4⟩ : ∃ W4, W4 = (w6.setCell ⟨g, 0, none⟩ (.int .i64 dn)).setCell ⟨g, 0 + 1, none⟩ (.int .i64 dd) := ⟨_, rfl⟩
     have HY4 : Hid (OwnRats W0.heap.size W4 (.slice (some ⟨g, 0, none⟩) Y6.length c2) Y6) := by rw [hW4, hYl]; show OwnRats _ _ _ _; simpa using hY7
     have HX4 : Hid (OwnRats W0.heap.size W4 (.slice aX X.length c1) X) := by rw [hW4]; exact owns_set (owns_set (OwnRats.only HX2.out ho7 (by omega)) (fun e => (hap.1 g e).1 rfl)) (fun e => (hap.1 g e).1 rfl)
     have HZ4 : Hid (OwnRats W0.heap.size W4 (.slice aZ Z.length c3) Z) := by rw [hW4]; exact owns_set (owns_set (OwnRats.only HZ2.out ho7 (by omega)) (hap.2 g rfl)) (hap.2 g rfl)
     have HR4 : Hid (CellsAt W4 r #[.int .i64 st, .slice aX X.length c1, .slice (some ⟨g, 0, none⟩) Y6.length c2, .slice aZ Z.length c3, .int .i64 nu, .int .i64 de, .int .i64 pv] 32) := by rw [hW4, hYl]; exact ((HR2.out.only ho7 hrp).other (p := ⟨g, 0, none⟩) hgr _).other (p := ⟨g, 0 + 1, none⟩) hgr _
     have HS4 : Hid (CellsAt W4 (w.heap.size + 1) #[.int .i64 0, .slice none 0 0, .slice none 0 0, .slice none 0 0, .int .i64 0, .int .i64 0, .int .i64 0] 32) := by rw [hW4]; exact ((HS2.out.only ho7 (by omega)).other (p := ⟨g, 0, none⟩) (show g ≠ w.heap.size + 1 by omega) _).other (p := ⟨g, 0 + 1, none⟩) (show g ≠ w.heap.size + 1 by omega) _
     have HU4 : Hid (Cur W4 pc a len cap) := by rw [hW4]; exact (hc6.setOwn (k := g) (by omega) 0 _).setOwn (k := g) (by omega) (0 + 1) _
     have HO4 : Hid (Only pc w W4) := by rw [hW4]; exact ((HO2.out.trans ho7).setOwn (k := g) (Nat.le_of_lt hp) (by omega) 0 _).setOwn (k := g) (Nat.le_of_lt hp) (by omega) (0 + 1) _
     have HW4 := zH hW4
     have hYle : Y6.length ≤ Y.length := by omega
     clear HR2 HX2 HY2 HZ2 HS2 HU2 HO2 hY6 hY7 s0 s1 s2 s3 hc6 ho6 ho7 hap b0 b1 b2 b3 b4 b5 b6 hW4 hYl hY6e hd hy
     go_upto_region 12 with fail
     rw [← HW4.out]
     obtain ⟨⟨b0, b1, b2, b3⟩, b4, b5, b6⟩ := sevC HR4.out
     obtain ⟨⟨d0, d1, d2, d3⟩, d4, d5, d6⟩ := sevC HS4.out
     obtain ⟨⟨e0, e1, e2, e3⟩, e4, e5, e6⟩ := sevF HS4.out
     go_wp2_with fail
     generalize hG : (World.setCell _ (⟨w.heap.size + 1, 6, none⟩ : Addr) _) = WF
     have hG2 : sets7 W4 (w.heap.size + 1) (.int .i64 st) (.slice aX X.length c1) (.slice (some ⟨g, 0, none⟩) Y6.length c2) (.slice aZ Z.length c3) (.int .i64 nu) (.int .i64 de) (.int .i64 pv) = WF := hG
     have hF := sets7_at HS4.out (.int .i64 st) (.slice aX X.length c1) (.slice (some ⟨g, 0, none⟩) Y6.length c2) (.slice aZ Z.length c3) (.int .i64 nu) (.int .i64 de) (.int .i64 pv)
     rw [hG2] at hF
     obtain ⟨⟨z0, z1, z2, z3⟩, z4, z5, z6⟩ := sevC hF
     refine bodyPost_ret (v := .agg #[.int .i64 st, .slice aX X.length c1, .slice (some ⟨g, 0, none⟩) Y6.length c2, .slice aZ Z.length c3, .int .i64 nu, .int .i64 de, .int .i64 pv]) (by simp [results, Tryz.results26, go_sem, z0, z1, z2, z3, z4, z5, z6]) rfl ?_
     rw [← hG2]
     exact ⟨_, _, _, _, _, _, _, ⟨st, X, Y6, Z, (nu, de), pv⟩, rfl, res_done (r := ⟨st, X, Y6, Z, (nu, de), pv⟩) HX4.out HY4.out HZ4.out (by omega) (by omega) (by omega) _ _ _ _ _ _ _, ⟨(sets7_own HX4.out (by omega) _ _ _ _ _ _ _).lower (by omega), (sets7_own HY4.out (by omega) _ _ _ _ _ _ _).lower (by omega), (sets7_own HZ4.out (by omega) _ _ _ _ _ _ _).lower (by omega)⟩, resFits (by show X.length + Y6.length + Z.length ≤ 1048576; omega), ⟨by show 0 ≤ (st : Int); omega, by show (st : Int) ≤ 4; omega⟩, cur_sets7 HU4.out (by omega) _ _ _ _ _ _ _, sets7_only HO4.out (Nat.le_of_lt hp) (by omega) _ _ _ _ _ _ _⟩
    ·
     have hd : decide ((Y.length : Int) > 0) = false := by rw [decide_eq_false_iff_not]; omega
     go_upto_region 12 with fail
     clear b0 b1 b2 b3 b4 b5 b6
     obtain ⟨⟨b0, b1, b2, b3⟩, b4, b5, b6⟩ := sevC HR2.out
     obtain ⟨⟨d0, d1, d2, d3⟩, d4, d5, d6⟩ := sevC HS2.out
     obtain ⟨⟨e0, e1, e2, e3⟩, e4, e5, e6⟩ := sevF HS2.out
     go_wp2_with fail
     generalize hG : (World.setCell _ (⟨w.heap.size + 1, 6, none⟩ : Addr) _) = WF
     have hG2 : sets7 w2 (w.heap.size + 1) (.int .i64 st) (.slice aX X.length c1) (.slice aY Y.length c2) (.slice aZ Z.length c3) (.int .i64 nu) (.int .i64 de) (.int .i64 pv) = WF := hG
     have hF := sets7_at HS2.out (.int .i64 st) (.slice aX X.length c1) (.slice aY Y.length c2) (.slice aZ Z.length c3) (.int .i64 nu) (.int .i64 de) (.int .i64 pv)
     rw [hG2] at hF
     obtain ⟨⟨z0, z1, z2, z3⟩, z4, z5, z6⟩ := sevC hF
     refine bodyPost_ret (v := .agg #[.int .i64 st, .slice aX X.length c1, .slice aY Y.length c2, .slice aZ Z.length c3, .int .i64 nu, .int .i64 de, .int .i64 pv]) (by simp [results, Tryz.results26, go_sem, z0, z1, z2, z3, z4, z5, z6]) rfl ?_
     rw [← hG2]
     exact ⟨_, _, _, _, _, _, _, ⟨st, X, Y, Z, (nu, de), pv⟩, rfl, res_done (r := ⟨st, X, Y, Z, (nu, de), pv⟩) HX2.out HY2.out HZ2.out (by omega) (by omega) (by omega) _ _ _ _ _ _ _, ⟨(sets7_own HX2.out (by omega) _ _ _ _ _ _ _).lower (by omega), (sets7_own HY2.out (by omega) _ _ _ _ _ _ _).lower (by omega), (sets7_own HZ2.out (by omega) _ _ _ _ _ _ _).lower (by omega)⟩, resFits (by show X.length + Y.length + Z.length ≤ 1048576; omega), ⟨by show 0 ≤ (st : Int); omega, by show (st : Int) ≤ 4; omega⟩, cur_sets7 HU2.out (by omega) _ _ _ _ _ _ _, sets7_only HO2.out (Nat.le_of_lt hp) (by omega) _ _ _ _ _ _ _⟩
   ·
    by_cases h3 : xx = 3
    ·
     subst h3
     go_wp2_with fail
     refine (spec_l3Draw B pc a len cap w2 hB HU2.out (Hcode.out.below (HO2.out.below hB))).mono ?_
     rintro e w3 ⟨dn, dd, rfl, hc3, ho3⟩
     have hR3 := HR2.out.only ho3 hrp
     obtain ⟨_, f4, f5, _⟩ := sevF hR3
     obtain ⟨_, g4, g5, _⟩ := sevC hR3
     obtain ⟨W4, hW4⟩ : ∃ W4, W4 = (w3.setCell ⟨r, 4, none⟩ (.int .i64 dn)).setCell ⟨r, 5, none⟩ (.int .i64 dd) := ⟨_, rfl⟩
     have HR4 : Hid (CellsAt W4 r #[.int .i64 st, .slice aX X.length c1, .slice aY Y.length c2, .slice aZ Z.length c3, .int .i64 dn, .int .i64 dd, .int .i64 pv] 32) := by rw [hW4]; have := (hR3.set 4 (.int .i64 dn)).set 5 (.int .i64 dd); show CellsAt _ _ _ _; simpa using this
     have HX4 : Hid (OwnRats W0.heap.size W4 (.slice aX X.length c1) X) := by rw [hW4]; exact owns_set (owns_set (OwnRats.only HX2.out ho3 (by omega)) (fun e => by have := hXb.out _ e; omega)) (fun e => by have := hXb.out _ e; omega)
     have HY4 : Hid (OwnRats W0.heap.size W4 (.slice aY Y.length c2) Y) := by rw [hW4]; exact owns_set (owns_set (OwnRats.only HY2.out ho3 (by omega)) (fun e => by have := hYb.out _ e; omega)) (fun e => by have := hYb.out _ e; omega)
     have HZ4 : Hid (OwnRats W0.heap.size W4 (.slice aZ Z.length c3) Z) := by rw [hW4]; exact owns_set (owns_set (OwnRats.only HZ2.out ho3 (by omega)) (fun e => by have := hZb.out _ e; omega)) (fun e => by have := hZb.out _ e; omega)
     have HS4 : Hid (CellsAt W4 (w.heap.size + 1) #[.int .i64 0, .slice none 0 0, .slice none 0 0, .slice none 0 0, .int .i64 0, .int .i64 0, .int .i64 0] 32) := by rw [hW4]; exact ((HS2.out.only ho3 (by omega)).other (p := ⟨r, 4, none⟩) (show r ≠ w.heap.size + 1 by omega) _).other (p := ⟨r, 5, none⟩) (show r ≠ w.heap.size + 1 by omega) _
     have HU4 : Hid (Cur W4 pc a len cap) := by rw [hW4]; exact (hc3.setOwn (k := r) (by omega) 4 _).setOwn (k := r) (by omega) 5 _
     have HO4 : Hid (Only pc w W4) := by rw [hW4]; exact ((HO2.out.trans ho3).setOwn (k := r) (Nat.le_of_lt hp) (by omega) 4 _).setOwn (k := r) (Nat.le_of_lt hp) (by omega) 5 _
     have HW4 := zH hW4
     clear HR2 HX2 HY2 HZ2 HS2 HU2 HO2 hc3 ho3 hR3 hW4
     go_upto_region 12 with fail
     rw [← HW4.out]
     clear f4 f5 g4 g5
     obtain ⟨⟨b0, b1, b2, b3⟩, b4, b5, b6⟩ := sevC HR4.out
     obtain ⟨⟨d0, d1, d2, d3⟩, d4, d5, d6⟩ := sevC HS4.out
     obtain ⟨⟨e0, e1, e2, e3⟩, e4, e5, e6⟩ := sevF HS4.out
     go_wp2_with fail
     generalize hG : (World.setCell _ (⟨w.heap.size + 1, 6, none⟩ : Addr) _) = WF
     have hG2 : sets7 W4 (w.heap.size + 1) (.int .i64 st) (.slice aX X.length c1) (.slice aY Y.length c2) (.slice aZ Z.length c3) (.int .i64 dn) (.int .i64 dd) (.int .i64 pv) = WF := hG
     have hF := sets7_at HS4.out (.int .i64 st) (.slice aX X.length c1) (.slice aY Y.length c2) (.slice aZ Z.length c3) (.int .i64 dn) (.int .i64 dd) (.int .i64 pv)
     rw [hG2] at hF
     obtain ⟨⟨z0, z1, z2, z3⟩, z4, z5, z6⟩ := sevC hF
     refine bodyPost_ret (v := .agg #[.int .i64 st, .slice aX X.length c1, .slice aY Y.length c2, .slice aZ Z.length c3, .int .i64 dn, .int .i64 dd, .int .i64 pv]) (by simp [results, Tryz.results26, go_sem, z0, z1, z2, z3, z4, z5, z6]) rfl ?_
     rw [← hG2]
     exact ⟨_, _, _, _, _, _, _, ⟨st, X, Y, Z, (dn, dd), pv⟩, rfl, res_done (r := ⟨st, X, Y, Z, (dn, dd), pv⟩) HX4.out HY4.out HZ4.out (by omega) (by omega) (by omega) _ _ _ _ _ _ _, ⟨(sets7_own HX4.out (by omega) _ _ _ _ _ _ _).lower (by omega), (sets7_own HY4.out (by omega) _ _ _ _ _ _ _).lower (by omega), (sets7_own HZ4.out (by omega) _ _ _ _ _ _ _).lower (by omega)⟩, resFits (by show X.length + Y.length + Z.length ≤ 1048576; omega), ⟨by show 0 ≤ (st : Int); omega, by show (st : Int) ≤ 4; omega⟩, cur_sets7 HU4.out (by omega) _ _ _ _ _ _ _, sets7_only HO4.out (Nat.le_of_lt hp) (by omega) _ _ _ _ _ _ _⟩
    ·
     have q0 : (xx == 0) = false := by rw [beq_eq_false_iff_ne]; exact h0
     have q1 : (xx == 1) = false := by rw [beq_eq_false_iff_ne]; exact h1
     have q2 : (xx == 2) = false := by rw [beq_eq_false_iff_ne]; exact h2
     have q3 : (xx == 3) = false := by rw [beq_eq_false_iff_ne]; exact h3
     clear h0 h1 h2 h3
     go_upto_region 12 with fail
     obtain ⟨⟨b0, b1, b2, b3⟩, b4, b5, b6⟩ := sevC HR2.out
     obtain ⟨⟨d0, d1, d2, d3⟩, d4, d5, d6⟩ := sevC HS2.out
     obtain ⟨⟨e0, e1, e2, e3⟩, e4, e5, e6⟩ := sevF HS2.out
     go_wp2_with fail
     generalize hG : (World.setCell _ (⟨w.heap.size + 1, 6, none⟩ : Addr) _) = WF
     have hG2 : sets7 w2 (w.heap.size + 1) (.int .i64 st) (.slice aX X.length c1) (.slice aY Y.length c2) (.slice aZ Z.length c3) (.int .i64 nu) (.int .i64 de) (.int .i64 pv) = WF := hG
     have hF := sets7_at HS2.out (.int .i64 st) (.slice aX X.length c1) (.slice aY Y.length c2) (.slice aZ Z.length c3) (.int .i64 nu) (.int .i64 de) (.int .i64 pv)
     rw [hG2] at hF
     obtain ⟨⟨z0, z1, z2, z3⟩, z4, z5, z6⟩ := sevC hF
     refine bodyPost_ret (v := .agg #[.int .i64 st, .slice aX X.length c1, .slice aY Y.length c2, .slice aZ Z.length c3, .int .i64 nu, .int .i64 de, .int .i64 pv]) (by simp [results, Tryz.results26, go_sem, z0, z1, z2, z3, z4, z5, z6]) rfl ?_
     rw [← hG2]
     exact ⟨_, _, _, _, _, _, _, ⟨st, X, Y, Z, (nu, de), pv⟩, rfl, res_done (r := ⟨st, X, Y, Z, (nu, de), pv⟩) HX2.out HY2.out HZ2.out (by omega) (by omega) (by omega) _ _ _ _ _ _ _, ⟨(sets7_own HX2.out (by omega) _ _ _ _ _ _ _).lower (by omega), (sets7_own HY2.out (by omega) _ _ _ _ _ _ _).lower (by omega), (sets7_own HZ2.out (by omega) _ _ _ _ _ _ _).lower (by omega)⟩, resFits (by show X.length + Y.length + Z.length ≤ 1048576; omega), ⟨by show 0 ≤ (st : Int); omega, by show (st : Int) ≤ 4; omega⟩, cur_sets7 HU2.out (by omega) _ _ _ _ _ _ _, sets7_only HO2.out (Nat.le_of_lt hp) (by omega) _ _ _ _ _ _ _⟩
end Go.Proofs.YtmjmjilpcekngaaGreat

namespace Go.Proofs.YtmjmjilpcekngaaGreat
open Go.RowKit
open Ve (R)
open Ta (T)
open Lp (P Res)
def DrewPR (w : World) (e : Ending) (w' : World) : Prop :=
 ∃ (x y z u0 u1 u2 u3 u4 u5 u6 : Value) (p : P) (r : Res), e = .returned (.tuple #[.agg #[x, y, z], .agg #[u0, u1, u2, u3, u4, u5, u6]]) ∧ LpC w' x y z p ∧ LpFits p ∧ ResC w' u0 u1 u2 u3 u4 u5 u6 r ∧ ResFits r ∧ (0 ≤ r.status ∧ r.status ≤ 4) ∧ Below w.heap.size w w'
theorem resC_of {lo1 lo2 lo3 : Nat} {w w' : World} {u0 u1 u2 u3 u4 u5 u6 : Value} {r : Res} (h : ResC w u0 u1 u2 u3 u4 u5 u6 r) (h1 : OwnRats lo1 w' u1 r.X) (h2 : OwnRats lo2 w' u2 r.Y) (h3 : OwnRats lo3 w' u3 r.ray) : ResC w' u0 u1 u2 u3 u4 u5 u6 r := by
 obtain ⟨a, b, c, c1, c2, c3, rfl, rfl, rfl, rfl, rfl, rfl, rfl, _⟩ := h
 exact ⟨a, b, c, c1, c2, c3, rfl, rfl, rfl, rfl, rfl, rfl, rfl, ⟨(own_readsR h1).2, (own_readsR h2).2, (own_readsR h3).2⟩⟩
theorem far10 (w : World) (q s : Nat) (z0 z1 z2 y0 y1 y2 y3 y4 y5 y6 : Value) {k : Nat} (h1 : k ≠ q) (h2 : k ≠ s) : (sets7 (((w.setCell ⟨q, 0, none⟩ z0).setCell ⟨q, 1, none⟩ z1).setCell ⟨q, 2, none⟩ z2) s y0 y1 y2 y3 y4 y5 y6).heap[k]? = w.heap[k]? := by
 rw [sets7_block _ _ _ _ _ _ _ _ _ h2, Below.heap_setCell _ _ _ _ h1, Below.heap_setCell _ _ _ _ h1, Below.heap_setCell _ _ _ _ h1]
theorem pr_done {lo q s : Nat} {w w' : World} {vA vB vC u0 u1 u2 u3 u4 u5 u6 : Value} {A : List (List Int)} {B : List Int} {C : List R} {r : Res} (h : OwnAB lo w vA vB A B) (hc : OwnRats lo w vC C) (hr : ResC w u0 u1 u2 u3 u4 u5 u6 r) (h1 : OwnRats lo w u1 r.X) (h2 : OwnRats lo w u2 r.Y) (h3 : OwnRats lo w u3 r.ray)
  (hk : ∀ k, k ≠ q → k ≠ s → w'.heap[k]? = w.heap[k]?) (hq : q < lo) (hs : s < lo) : LpC w' vA vB vC ⟨A, B, C⟩ ∧ ResC w' u0 u1 u2 u3 u4 u5 u6 r := by
 have own : ∀ {u : Value} {xs : List R}, OwnRats lo w u xs → OwnRats lo w' u xs := fun hu => owns_same hu fun g hg => by have := (World.ownsRow.lt hu g hg).1; exact hk g (by omega) (by omega)
 exact ⟨drawn_lp (h.kept fun b hb _ _ => hk b (by omega) (by omega)) (own hc), resC_of hr (own h1) (own h2) (own h3)⟩
set_option maxHeartbeats 8000000 in
theorem spec_DrawCheckLP (a : Option Addr) (len cap : Nat) (w : World) (hcode : CodeAt w.heap.size w a len) :
  Calls Tryz.prog 6 #[.slice a len cap] w (DrewPR w) := by
 obtain ⟨O1, hO1⟩ : ∃ O, O = Obj.cells #[.slice none 0 0, .slice none 0 0, .slice none 0 0] 28 := ⟨_, rfl⟩
 obtain ⟨O2, hO2⟩ : ∃ O, O = Obj.cells #[.int .i64 0, .slice none 0 0, .slice none 0 0, .slice none 0 0, .int .i64 0, .int .i64 0, .int .i64 0] 32 := ⟨_, rfl⟩
 obtain ⟨W0, hW0⟩ : ∃ W, W = (w.alloc O1).alloc O2 := ⟨_, rfl⟩
 have hs0 : W0.heap.size = w.heap.size + 2 := by rw [hW0]; exact size2 w O1 O2
 have hb0 : Below w.heap.size w W0 := by rw [hW0]; exact ((Below.refl _ _).alloc (Nat.le_refl _) O1).alloc (by rw [size1]; omega) O2
 have hT : Tri W0 w.heap.size (.slice none 0 0) (.slice none 0 0) (.slice none 0 0) 28 := by rw [hW0, hO1]; exact (Tri.new w _ _ _ _).more O2
 have hS : CellsAt W0 (w.heap.size + 1) #[.int .i64 0, .slice none 0 0, .slice none 0 0, .slice none 0 0, .int .i64 0, .int .i64 0, .int .i64 0] 32 := by
  have := CellsAt.new (w.alloc O1) #[.int .i64 0, .slice none 0 0, .slice none 0 0, .slice none 0 0, .int .i64 0, .int .i64 0, .int .i64 0] 32
  rw [size1] at this
  rw [hW0, hO2]; exact this
 have Hc := zH hcode
 have HT0 := zH hT
 have HS0 := zH hS
 have HB0 := zH hb0
 have HO1 := zH hO1
 have HO2 := zH hO2
 have HW := zH hW0
 have hsl : w.heap.size + 1 < W0.heap.size ∧ W0.heap.size ≤ w.heap.size + 2 := by omega
 clear hcode hT hS hb0 hO1 hO2 hW0 hs0
 go_enter Tryz.func6, Tryz.ntmps6
 go_wp2_with fail
 rw [← HO1.out, ← HO2.out, ← HW.out]
 clear HO1 HO2 HW
 refine (spec_l1New w.heap.size a len cap W0 (Hc.out.below HB0.out)).mono ?_
 rintro e w1 ⟨rfl, hc1, hb1, hsz1⟩
 obtain ⟨p, hp⟩ : ∃ p, W0.heap.size = p := ⟨_, rfl⟩
 rw [hp] at hc1 hb1 hsz1 hsl ⊢
 have HC1 := zH hc1
 have hpl : p < w1.heap.size := hc1.lt
 have hT1 : Tri w1 w.heap.size (.slice none 0 0) (.slice none 0 0) (.slice none 0 0) 28 := (hb1.block _ (by omega)).trans HT0.out
 have hS1 : CellsAt w1 (w.heap.size + 1) #[.int .i64 0, .slice none 0 0, .slice none 0 0, .slice none 0 0, .int .i64 0, .int .i64 0, .int .i64 0] 32 := (hb1.block _ (by omega)).trans HS0.out
 have HT := zH hT1
 have HS := zH hS1
 have HB := zH (HB0.out.trans (hb1.mono (by omega)))
 have hbp : w.heap.size ≤ p := by omega
 clear hT1 hS1 hc1 hb1 hsz1 HT0 HS0 HB0 hp
 go_wp2_with fail
 refine (spec_l5Bent w.heap.size p a len cap w1 hbp HC1.out (Hc.out.below HB.out)).mono ?_
 rintro e w2 ⟨vA, vB, vC, A, Bv, C, rfl, hM, hab, hc, hcu, ho⟩
 have hF := zH (mid_fits hM)
 have hl := drawn_lp hab hc
 obtain ⟨o0, o1, o2⟩ := hl.one
 have HOne := zH (And.intro o0 (And.intro o1 o2))
 have t0 := sto o0
 have t1 := sto o1
 have t2 := sto o2
 have hsz2 : w1.heap.size ≤ w2.heap.size := ho.low.size
 obtain ⟨O3, hO3⟩ : ∃ O, O = Obj.cells #[vA, vB, vC] 28 := ⟨_, rfl⟩
 obtain ⟨W3, hW3⟩ : ∃ W, W = w2.alloc O3 := ⟨_, rfl⟩
 obtain ⟨q, hq⟩ : ∃ q, q = w2.heap.size := ⟨_, rfl⟩
 have up : Below w2.heap.size w2 W3 := by rw [hW3]; exact (Below.refl _ _).alloc (Nat.le_refl _) O3
 have HAB := zH (hab.below up)
 have HCC : Hid (OwnRats w1.heap.size W3 vC C) := OwnRats.below hc up
 have HL := zH (hl.up up)
 have HU := zH (hcu.below up)
 have HQ : Hid (Tri W3 q vA vB vC 28) := by rw [hW3, hq, hO3]; exact Tri.new w2 _ _ _ _
 replace HT := zH (show Tri W3 w.heap.size (.slice none 0 0) (.slice none 0 0) (.slice none 0 0) 28 from (up.block _ (by omega)).trans ((ho.block (by omega) (lt_of_at HT.out)).trans HT.out))
 replace HS := zH ((HS.out.only ho (by omega)).below up)
 replace HB := zH ((HB.out.trans (ho.below hbp)).trans (up.mono (by omega)))
 have hqp : q ≠ p := by omega
 have hs3 : q < W3.heap.size := lt_of_at HQ.out
 have hs23 : w2.heap.size ≤ W3.heap.size := up.size
 have HO3 := zH hO3
 have HW3 := zH hW3
 have Hq := zH hq
 obtain ⟨m0, m1, m2, _⟩ := HQ.out.cells
 clear hab hc hcu ho hl o0 o1 o2 hM HC1 up hO3 hW3 hq
 go_upto_region 3 with fail
 rw [← HO3.out, ← HW3.out, ← Hq.out]
 clear HO3 HW3 Hq t0 t1 t2
 have ho0 : Only p W3 W3.drew := (Only.refl p W3).drew
 have Cell := zH (fun w' (h : Only p W3 w') => (show w'.cell? ⟨q, 0, none⟩ = some vA ∧ w'.cell? ⟨q, 1, none⟩ = some vB ∧ w'.cell? ⟨q, 2, none⟩ = some vC from ⟨h.cell (a := ⟨q, 0, none⟩) hqp m0, h.cell (a := ⟨q, 1, none⟩) hqp m1, h.cell (a := ⟨q, 2, none⟩) hqp m2⟩))
 refine wp_region_T_drew (S := (fun w' => w'.cell? ⟨q, 0, none⟩ = some vA ∧ w'.cell? ⟨q, 1, none⟩ = some vB ∧ w'.cell? ⟨q, 2, none⟩ = some vC)) 4 (by kernel_rfl) ?_ (fun hHeld => ?_)
 ·
  exact Cell.out _ ho0
 refine tk2 0 ⟨some 10, .load 28 (.tmp 5), 28, "l05_lp.go:214", #[], none⟩ ?_
 refine tk2 1 ⟨some 11, .move (.tmp 4), 51, "l05_lp.go:214", #[], none⟩ ?_
 refine tk2 2 ⟨some 12, .load 28 (.tmp 5), 28, "l05_lp.go:214", #[], none⟩ ?_
 try simp only [Act.put, zA, zB, zC]
 refine rd2 3 ⟨some 13, .call { callee := .value (.func 26), args := #[.tmp 11, .tmp 12], argTypes := #[51, 28] }, 32, "l05_lp.go:214", #[⟨1, .data⟩, ⟨2, .data⟩], none⟩ fun K hK => ?_
 go_simp
 (refine (spec_l5Result w.heap.size p hbp a len cap (HL.out.up (Below.refl _ _).drew) hF.out (show Cur W3.drew p a len cap from HU.out) (Hc.out.below HB.out.drew)).mono ?_; rintro e w5 ⟨u0, u1, u2, u3, u4, u5, u6, r, rfl, hr, ⟨hX, hY, hZ⟩, hfit, hst, hc5, ho5⟩; have ho6 := ho0.trans ho5)
 refine hK.out _ _ ?_ (fun hHeld => ?_)
 ·
  exact Cell.out _ ho6
 clear hK K
 try simp only [Act.put, zA, zB, zC]
 obtain ⟨p0, p1, p2, p3, p4, p5, p6⟩ := hr.one
 have k0 := sto p0
 have k1 := sto p1
 have k2 := sto p2
 have k3 := sto p3
 have k4 := sto p4
 have k5 := sto p5
 have k6 := sto p6
 have tA := sto HOne.out.1
 have tB := sto HOne.out.2.1
 have tC := sto HOne.out.2.2
 have hT5 : Tri w5 w.heap.size (.slice none 0 0) (.slice none 0 0) (.slice none 0 0) 28 := (ho6.block (by omega) (lt_of_at HT.out)).trans HT.out
 have hS5 := HS.out.only ho6 (by omega)
 have hwd : W3.drew.heap.size = W3.heap.size := rfl
 have hlo : w1.heap.size ≤ W3.heap.size := by omega
 have HAB5 := zH (HAB.out.only ho6 (by omega))
 have HCC5 := zH (OwnRats.only HCC.out ho6 (by omega))
 have HR5 := zH hr
 have HX5 := zH (hX.lower (B := w1.heap.size) (by rw [hwd]; exact hlo))
 have HY5 := zH (hY.lower (B := w1.heap.size) (by rw [hwd]; exact hlo))
 have HZ5 := zH (hZ.lower (B := w1.heap.size) (by rw [hwd]; exact hlo))
 have HT5 := zH hT5
 have HS5 := zH hS5
 have HB5 := zH (HB.out.trans (ho6.below hbp))
 have HFit := zH hfit
 have HSt := zH hst
 obtain ⟨_, _, _, y0, y1, y2⟩ := hT5.cells
 clear hr hX hY hZ hfit hst hc5 ho5 ho6 ho0 hT5 hwd Cell HAB HCC HL HU HQ HT HS HB m0 m1 m2 p0 p1 p2 p3 p4 p5 p6
 have hS6 := ((hS5.other (p := ⟨w.heap.size, 0, none⟩) (show w.heap.size ≠ w.heap.size + 1 by omega) vA).other (p := ⟨w.heap.size, 1, none⟩) (show w.heap.size ≠ w.heap.size + 1 by omega) vB).other (p := ⟨w.heap.size, 2, none⟩) (show w.heap.size ≠ w.heap.size + 1 by omega) vC
 have HS6 := zH hS6
 obtain ⟨⟨d0, d1, d2, d3⟩, d4, d5, d6⟩ := sevC hS6
 obtain ⟨⟨e0, e1, e2, e3⟩, e4, e5, e6⟩ := sevF hS6
 clear hS5 hS6
 refine rd3 4 ⟨none, .store 28 (.tmp 2) (.tmp 10), 0, "l05_lp.go:214", #[⟨0, .data⟩, ⟨3, .chain⟩, ⟨0, .phase⟩, ⟨1, .textOnly .lateStores⟩, ⟨2, .textOnly .lateStores⟩, ⟨3, .textOnly .lateStoresUnsure⟩], none⟩ fun K hK => ?_
 go_simp
 refine hK.out _ _ ?_
 clear hK K
 refine rd3 5 ⟨none, .store 32 (.tmp 3) (.tmp 13), 0, "l05_lp.go:214", #[⟨3, .data⟩, ⟨4, .chain⟩, ⟨0, .phase⟩, ⟨1, .phase⟩, ⟨2, .phase⟩, ⟨3, .phase⟩, ⟨4, .phase⟩], none⟩ fun K hK => ?_
 go_simp
 refine hK.out _ _ ?_
 clear hK K
 refine wpAnyT_done (by kernel_rfl) ?_ _
 have hT6 := ((HT5.out.set0 vA).set1 vB).set2 vC
 obtain ⟨W6, hW6⟩ : ∃ W6, W6 = ((w5.setCell ⟨w.heap.size, 0, none⟩ vA).setCell ⟨w.heap.size, 1, none⟩ vB).setCell ⟨w.heap.size, 2, none⟩ vC := ⟨_, rfl⟩
 have hB6 : Below w.heap.size w W6 := by rw [hW6]; exact ((HB5.out.setCell (p := ⟨w.heap.size, 0, none⟩) (Nat.le_refl _) vA).setCell (p := ⟨w.heap.size, 1, none⟩) (Nat.le_refl _) vB).setCell (p := ⟨w.heap.size, 2, none⟩) (Nat.le_refl _) vC
 rw [← hW6] at hT6 HS6
 have HT6 := zH hT6
 have hdone := pr_done (w' := sets7 W6 (w.heap.size + 1) u0 u1 u2 u3 u4 u5 u6) HAB5.out HCC5.out HR5.out HX5.out HY5.out HZ5.out (q := w.heap.size) (s := w.heap.size + 1) (fun k h1 h2 => by rw [hW6]; exact far10 w5 w.heap.size (w.heap.size + 1) vA vB vC u0 u1 u2 u3 u4 u5 u6 h1 h2) (by omega) (by omega)
 have HD := zH hdone
 have HB6 := zH (sets7_below hB6 (Nat.le_succ _) u0 u1 u2 u3 u4 u5 u6)
 have HW6 := zH hW6
 clear hT6 hB6 hdone hW6 d0 d1 d2 d3 d4 d5 d6 e0 e1 e2 e3 e4 e5 e6 y0 y1 y2 k0 k1 k2 k3 k4 k5 k6 tA tB tC
 go_wp2_with fail
 rw [← HW6.out]
 generalize hG : (World.setCell _ (⟨w.heap.size + 1, 6, none⟩ : Addr) _) = WF
 have hG2 : sets7 W6 (w.heap.size + 1) u0 u1 u2 u3 u4 u5 u6 = WF := hG
 have hF2 := sets7_at HS6.out u0 u1 u2 u3 u4 u5 u6
 have hT7 : Tri (sets7 W6 (w.heap.size + 1) u0 u1 u2 u3 u4 u5 u6) w.heap.size vA vB vC 28 := (sets7_block W6 (w.heap.size + 1) u0 u1 u2 u3 u4 u5 u6 (show w.heap.size ≠ w.heap.size + 1 by omega)).trans HT6.out
 rw [hG2] at hF2 hT7
 obtain ⟨⟨z0, z1, z2, z3⟩, z4, z5, z6⟩ := sevC hF2
 obtain ⟨c0, c1, c2, _⟩ := hT7.cells
 refine bodyPost_ret (v := .tuple #[.agg #[vA, vB, vC], .agg #[u0, u1, u2, u3, u4, u5, u6]]) (by simp [results, Tryz.results6, go_sem, z0, z1, z2, z3, z4, z5, z6, c0, c1, c2]) rfl ?_
 rw [← hG2]
 exact ⟨_, _, _, _, _, _, _, _, _, _, _, _, rfl, HD.out.1, hF.out, HD.out.2, HFit.out, HSt.out, HB6.out⟩
end Go.Proofs.YtmjmjilpcekngaaGreat
