/- The parts WdB, WdD, WdE. -/
import Derived.Test.YtmjmjilpcekngaaWdA
import Derived.Test.YtmjmjilpcekngaaHeldT
import Derived.Test.YtmjmjilpcekngaaGTd
import Derived.Test.YtmjmjilpcekngaaGDl
namespace Go.Proofs.Ytmjmjilpcekngaa
open Go.RowKit
open Ve (R)
open Ta (T)
open Lp (P Res)
def DrewFeas (w : World) (e : Ending) (w' : World) : Prop :=
 ∃ (x y z v : Value) (p : P) (xs : List R), e = .returned (.tuple #[.agg #[x, y, z], v]) ∧ LpC w' x y z p ∧ LpFits p ∧ InRats w' v xs ∧ xs.length ≤ 1048576 ∧ Below w.heap.size w w'
theorem res_u1 {w : World} {u0 u1 u2 u3 u4 u5 u6 : Value} {r : Res} (h : ResC w u0 u1 u2 u3 u4 u5 u6 r) : ∃ (a : Option Addr) (c : Nat), u1 = .slice a r.X.length c := by
 obtain ⟨a, b, c, c1, c2, c3, e0, e1, _⟩ := h
 exact ⟨a, c1, e1⟩
theorem lp_done {lo lo2 lo3 q : Nat} {w : World} {vA vB vC v y0 y1 y2 : Value} {A : List (List Int)} {B : List Int} {C xs : List R} (h : OwnAB lo w vA vB A B) (hc : OwnRats lo2 w vC C) (hx : OwnRats lo3 w v xs) (ht : Tri w q y0 y1 y2 28) (z0 z1 z2 : Value) :
  LpC (((w.setCell ⟨q, 0, none⟩ z0).setCell ⟨q, 1, none⟩ z1).setCell ⟨q, 2, none⟩ z2) vA vB vC ⟨A, B, C⟩ ∧ InRats (((w.setCell ⟨q, 0, none⟩ z0).setCell ⟨q, 1, none⟩ z1).setCell ⟨q, 2, none⟩ z2) v xs := by
 have t0 := ht.set0 z0
 have t1 := t0.set1 z1
 have hcq := own_away hc (tri_ty ht) lp_ne.2.2.2.2.1
 have hxq := own_away hx (tri_ty ht) lp_ne.2.2.2.2.1
 have hab := ((h.set (i := 0) (u := z0) (tri_ty ht) lp_ne.1 lp_ne.2.1).set (i := 1) (u := z1) (tri_ty t0) lp_ne.1 lp_ne.2.1).set (i := 2) (u := z2) (tri_ty t1) lp_ne.1 lp_ne.2.1
 exact ⟨drawn_lp hab (owns_set (i := 2) (u := z2) (owns_set (i := 1) (u := z1) (owns_set (i := 0) (u := z0) hc hcq) hcq) hcq), own_inR (owns_set (i := 2) (u := z2) (owns_set (i := 1) (u := z1) (owns_set (i := 0) (u := z0) hx hxq) hxq) hxq)⟩
set_option maxRecDepth 100000 in
set_option maxHeartbeats 8000000 in
theorem spec_DrawIsFeasible (a : Option Addr) (len cap : Nat) (w : World) (hcode : CodeAt w.heap.size w a len) :
  Calls Try.prog 7 #[.slice a len cap] w (DrewFeas w) := by
 have Hc := zH hcode
 have HN0 := zH (Tri.new w (.slice none 0 0) (.slice none 0 0) (.slice none 0 0) 28)
 have HB0 := zH ((Below.refl w.heap.size w).alloc (Nat.le_refl _) (.cells #[.slice none 0 0, .slice none 0 0, .slice none 0 0] 28))
 have Hs0 := zH (size1 w (.cells #[.slice none 0 0, .slice none 0 0, .slice none 0 0] 28))
 clear hcode
 go_enter Try.func7, Try.ntmps7
 go_wp2_with fail
 generalize w.alloc (.cells #[.slice none 0 0, .slice none 0 0, .slice none 0 0] 28) = W0 at *
 refine (spec_l1New w.heap.size a len cap W0 (Hc.out.below HB0.out)).mono ?_
 rintro e w1 ⟨rfl, hc1, hb1, hsz1⟩
 have HC1 := zH hc1
 have HB1 := zH hb1
 clear hc1 hb1
 obtain ⟨p, hp⟩ : ∃ p, W0.heap.size = p := ⟨_, rfl⟩
 have hp0 : p = w.heap.size + 1 := by rw [← hp]; exact Hs0.out
 have hp1 : w.heap.size < p ∧ p ≤ w.heap.size + 1 := by omega
 rw [hp] at HC1 HB1 hsz1 ⊢
 have hpl : p < w1.heap.size := HC1.out.lt
 have hT1 : Tri w1 w.heap.size (.slice none 0 0) (.slice none 0 0) (.slice none 0 0) 28 := (HB1.out.block _ (by omega)).trans HN0.out
 have HT := zH hT1
 have HB := zH (HB0.out.trans (HB1.out.mono (by omega)))
 have hbp : w.heap.size ≤ p := by omega
 clear hT1 HN0 HB0 HB1 Hs0 hp hp0 hsz1
 go_wp2_with fail
 refine (spec_l5Bent w.heap.size p a len cap w1 hbp HC1.out (Hc.out.below HB.out)).mono ?_
 rintro e w2 ⟨vA, vB, vC, A, Bv, C, rfl, hM, hab, hc, hcu, ho⟩
 have hF := zH (mid_fits hM)
 have hCl : C.length ≤ 6 := hM.c6
 have hl := drawn_lp hab hc
 obtain ⟨o0, o1, o2⟩ := hl.one
 have HOne := zH (And.intro o0 o1)
 have t0 := sto o0
 have t1 := sto o1
 obtain ⟨cc, cC, rfl, _⟩ := own_rats hc
 have t2 := sto o2
 have hsz2 : w1.heap.size ≤ w2.heap.size := ho.low.size
 replace HT := zH (show Tri w2 w.heap.size (.slice none 0 0) (.slice none 0 0) (.slice none 0 0) 28 from (ho.block (by omega) (lt_of_at HT.out)).trans HT.out)
 replace HB := zH (HB.out.trans (ho.below hbp))
 have HAB := zH (hab.below ((Below.refl _ _).alloc (Nat.le_refl _) (.cells #[vA, vB, .slice cc C.length cC] 28)))
 have HCC : Hid (OwnRats w1.heap.size _ _ _) := hc.alloc (.cells #[vA, vB, .slice cc C.length cC] 28)
 have HL := zH (hl.up ((Below.refl _ _).alloc (Nat.le_refl _) (.cells #[vA, vB, .slice cc C.length cC] 28)))
 have HU := zH (hcu.alloc (.cells #[vA, vB, .slice cc C.length cC] 28))
 have HQ := zH (Tri.new w2 vA vB (.slice cc C.length cC) 28)
 replace HT := zH (HT.out.more (.cells #[vA, vB, .slice cc C.length cC] 28))
 replace HB := zH (HB.out.alloc HB.out.size (.cells #[vA, vB, .slice cc C.length cC] 28))
 have hs3 := size1 w2 (.cells #[vA, vB, .slice cc C.length cC] 28)
 obtain ⟨q, hq⟩ : ∃ q, w2.heap.size = q := ⟨_, rfl⟩
 obtain ⟨m0, m1, m2, _⟩ := HQ.out.cells
 rw [hq] at HQ hs3 hsz2 m0 m1 m2
 have hs3l : q < (w2.alloc (.cells #[vA, vB, .slice cc C.length cC] 28)).heap.size := by omega
 have Hq := zH hq
 clear hab hc hcu ho hl o0 o1 o2 hM HC1 hq hs3
 go_wp2_with fail
 rw [Hq.out]
 clear Hq t0 t1 t2
 generalize w2.alloc (.cells #[vA, vB, .slice cc C.length cC] 28) = W3 at *
 refine (spec_Solve_c HL.out hF.out).mono ?_
 rintro e w4 ⟨⟨u0, u1, u2, u3, u4, u5, u6, rfl, hr, hX, _, _, _⟩, k⟩
 obtain ⟨o0, o1, o2, o3, o4, o5, o6⟩ := hr.one
 have t0 := sto o0
 have t2 := sto o2
 have t3 := sto o3
 have t4 := sto o4
 have t5 := sto o5
 have t6 := sto o6
 obtain ⟨ax, cx, rfl⟩ := res_u1 hr
 have t1 := sto o1
 have hxf := (solve_fits ⟨A, Bv, C⟩).1
 obtain ⟨XS, hXS⟩ : ∃ XS, (Ta.solve ⟨A, Bv, C⟩).X = XS := ⟨_, rfl⟩
 rw [hXS] at hX hxf t1 o1 ⊢
 have hs4 := k.size
 obtain ⟨O, hO⟩ : ∃ O, O = Obj.cells #[u0, .slice ax XS.length cx, u2, u3, u4, u5, u6] 34 := ⟨_, rfl⟩
 have kk := k.alloc hs4 O
 have HX : Hid (OwnRats W3.heap.size _ _ _) := hX.alloc O
 replace HAB := zH (HAB.out.below kk)
 replace HCC : Hid (OwnRats w1.heap.size _ _ _) := (OwnRats.below HCC.out kk)
 replace HU := zH (HU.out.below kk)
 replace HQ := zH (show Tri (w4.alloc O) q vA vB (.slice cc C.length cC) 28 from (kk.block _ (lt_of_at HQ.out)).trans HQ.out)
 replace HT := zH (show Tri (w4.alloc O) w.heap.size (.slice none 0 0) (.slice none 0 0) (.slice none 0 0) 28 from (kk.block _ (lt_of_at HT.out)).trans HT.out)
 replace HB := zH (HB.out.trans (kk.mono HB.out.size))
 have HR := zH (hO ▸ CellsAt.new w4 #[u0, .slice ax XS.length cx, u2, u3, u4, u5, u6] 34 : CellsAt (w4.alloc O) w4.heap.size #[u0, .slice ax XS.length cx, u2, u3, u4, u5, u6] 34)
 obtain ⟨r, hr'⟩ : ∃ r, w4.heap.size = r := ⟨_, rfl⟩
 rw [hr'] at HR
 have hqp : q ≠ p := by omega
 have hrp : r ≠ p := by omega
 have hxp : p < W3.heap.size := by omega
 have hqw : w.heap.size < q := by omega
 have hrw : w.heap.size < r := by omega
 have n1 := HR.out.cell 1
 simp only [List.getElem?_toArray, List.getElem?_cons_succ, List.getElem?_cons_zero] at n1
 obtain ⟨m0', m1', m2', _⟩ := HQ.out.cells
 have Hr' := zH hr'
 have HO := zH hO
 clear k kk hr hX m0 m1 m2 HL hXS hr' hO hs4
 by_cases hx0 : 0 < XS.length
 ·
  have hd : decide ((XS.length : Int) > 0) = true := by rw [decide_eq_true_iff]; omega
  go_wp2_with fail
  rw [Hr'.out, ← HO.out]
  generalize w4.alloc O = W5 at *
  refine (spec_l1Once w.heap.size p a len cap 4 (by decide) (by decide) W5 hbp HU.out (Hc.out.below HB.out)).mono ?_
  rintro e w6 ⟨b, rfl, hc6, ho6⟩
  replace HU := zH hc6
  replace HAB := zH (HAB.out.only ho6 (by omega))
  replace HCC : Hid (OwnRats w1.heap.size _ _ _) := (OwnRats.only HCC.out ho6 (by omega))
  replace HX : Hid (OwnRats W3.heap.size _ _ _) := (OwnRats.only HX.out ho6 (by omega))
  replace HQ := zH (show Tri w6 q vA vB (.slice cc C.length cC) 28 from (ho6.block hqp (lt_of_at HQ.out)).trans HQ.out)
  replace HT := zH (show Tri w6 w.heap.size (.slice none 0 0) (.slice none 0 0) (.slice none 0 0) 28 from (ho6.block (by omega) (lt_of_at HT.out)).trans HT.out)
  replace HR := zH (HR.out.only ho6 hrp)
  replace HB := zH (HB.out.trans (ho6.below hbp))
  clear hc6 ho6 n1 m0' m1' m2'
  rcases b with _ | _
  ·
   have hbb : True := trivial
   obtain ⟨m0, m1, m2, _⟩ := HQ.out.cells
   have n1 := HR.out.cell 1
   simp only [List.getElem?_toArray, List.getElem?_cons_succ, List.getElem?_cons_zero] at n1
   obtain ⟨_, _, _, y0, y1, y2⟩ := HT.out.cells
   have hQs := ((HQ.out.other (p := ⟨w.heap.size, 0, none⟩) (show w.heap.size ≠ q by omega) vA).other (p := ⟨w.heap.size, 1, none⟩) (show w.heap.size ≠ q by omega) vB).other (p := ⟨w.heap.size, 2, none⟩) (show w.heap.size ≠ q by omega) (.slice cc C.length cC)
   have hRs := ((HR.out.other (p := ⟨w.heap.size, 0, none⟩) (show w.heap.size ≠ r by omega) vA).other (p := ⟨w.heap.size, 1, none⟩) (show w.heap.size ≠ r by omega) vB).other (p := ⟨w.heap.size, 2, none⟩) (show w.heap.size ≠ r by omega) (.slice cc C.length cC)
   have HQs := zH (And.intro hQs.cells (hRs.cell 1))
   clear hQs hRs
   have tA := sto HOne.out.1
   have tB := sto HOne.out.2
   go_upto_region 5 with fail
   refine wp_region_held_drew (S := fun w' => w'.cell? ⟨q, 0, none⟩ = some vA ∧ w'.cell? ⟨q, 1, none⟩ = some vB ∧ w'.cell? ⟨q, 2, none⟩ = some (.slice cc C.length cC) ∧ w'.cell? ⟨r, 1, none⟩ = some (.slice ax XS.length cx)) (by kernel_rfl) ?_ (fun hHeld => ?_)
   ·
    exact ⟨m0, m1, m2, n1⟩
   refine tk1 0 ⟨some 22, .load 28 (.tmp 5), 28, "l05_lp.go:188", #[], none⟩ ?_
   refine tk1 1 ⟨some 23, .fieldAddr 34 (.tmp 6) 1, 0, "l05_lp.go:188", #[⟨3, .gcOnly .lateStores⟩], none⟩ ?_
   refine tk1 2 ⟨some 24, .load 26 (.tmp 23), 26, "l05_lp.go:188", #[⟨1, .data⟩, ⟨3, .gcOnly .lateStores⟩], none⟩ ?_
   try simp only [Act.put, zA, zB, zC]
   refine rd1 3 ⟨none, .store 28 (.tmp 2) (.tmp 22), 0, "l05_lp.go:188", #[⟨0, .data⟩, ⟨0, .phase⟩, ⟨1, .textOnly .lateStores⟩, ⟨2, .textOnly .lateStores⟩], none⟩ fun K hK => ?_
   go_simp
   skip
   refine hK.out _ _ ?_ (fun hHeld => ?_)
   ·
    exact ⟨HQs.out.1.1, HQs.out.1.2.1, HQs.out.1.2.2.1, HQs.out.2⟩
   clear hK K
   refine tk1 4 ⟨some 3, .assign (.tmp 24), 26, "l05_lp.go:188", #[⟨2, .data⟩, ⟨3, .chain⟩, ⟨0, .phase⟩, ⟨1, .phase⟩, ⟨2, .phase⟩, ⟨3, .phase⟩], none⟩ ?_
   try simp only [Act.put, zA, zB, zC]
   refine wpAnyH_done (by kernel_rfl) ?_ _
   have HTW := HT.out
   have HABW := HAB.out
   have HCCW := HCC.out
   have HXW := HX.out
   have HBW := HB.out
   have HTf := zH (((HTW.set0 vA).set1 vB).set2 (.slice cc C.length cC))
   have hd := lp_done HABW HCCW HXW HTW vA vB (.slice cc C.length cC)
   have HD := zH hd
   have HBf := zH (((HBW.setCell (p := ⟨w.heap.size, 0, none⟩) (Nat.le_refl _) vA).setCell (p := ⟨w.heap.size, 1, none⟩) (Nat.le_refl _) vB).setCell (p := ⟨w.heap.size, 2, none⟩) (Nat.le_refl _) (.slice cc C.length cC))
   clear hd
   go_wp2_with fail
   refine bodyPost_ret (v := .tuple #[.agg #[vA, vB, .slice cc C.length cC], .slice ax XS.length cx]) (by
    obtain ⟨z0, z1, z2, _⟩ := HTf.out.cells
    revert z0 z1 z2
    generalize (World.setCell _ (⟨w.heap.size, 2, none⟩ : Addr) (.slice cc C.length cC)) = W4
    intro z0 z1 z2
    simp [results, Try.results7, go_sem, z0, z1, z2]) rfl ⟨_, _, _, _, ⟨A, Bv, C⟩, XS, rfl, HD.out.1.up (Below.refl _ _).drew, hF.out, HD.out.2.up (Below.refl _ _).drew, by omega, HBf.out.drew⟩
  ·
   have hbb : True := trivial
   obtain ⟨m0, m1, m2, _⟩ := HQ.out.cells
   have ho0 : Only p w6 w6.drew := (Only.refl p w6).drew
   have Cell := zH (fun w' (h : Only p w6 w') => (show w'.cell? ⟨q, 0, none⟩ = some vA ∧ w'.cell? ⟨q, 1, none⟩ = some vB ∧ w'.cell? ⟨q, 2, none⟩ = some (.slice cc C.length cC) from ⟨h.cell (a := ⟨q, 0, none⟩) hqp m0, h.cell (a := ⟨q, 1, none⟩) hqp m1, h.cell (a := ⟨q, 2, none⟩) hqp m2⟩))
   go_upto_region 6 with fail
   have tA := sto HOne.out.1
   have tB := sto HOne.out.2
   refine wp_region_T_drew (S := (fun w' => w'.cell? ⟨q, 0, none⟩ = some vA ∧ w'.cell? ⟨q, 1, none⟩ = some vB ∧ w'.cell? ⟨q, 2, none⟩ = some (.slice cc C.length cC))) 6 (by kernel_rfl) ?_ (fun hHeld => ?_)
   ·
    exact Cell.out _ ho0
   refine tk2 0 ⟨some 25, .load 28 (.tmp 5), 28, "l05_lp.go:190", #[], none⟩ ?_
   refine tk2 1 ⟨some 26, .move (.tmp 4), 61, "l05_lp.go:190", #[], none⟩ ?_
   refine tk2 2 ⟨some 27, .fieldAddr 28 (.tmp 5) 2, 0, "l05_lp.go:190", #[], none⟩ ?_
   refine tk2 3 ⟨some 28, .load 26 (.tmp 27), 26, "l05_lp.go:190", #[⟨2, .data⟩], none⟩ ?_
   refine tk2 4 ⟨some 29, .call { callee := .builtin Builtin.len, args := #[.tmp 28], argTypes := #[26] }, 3, "l05_lp.go:190", #[⟨3, .data⟩], none⟩ ?_
   try simp only [Act.put, zA, zB, zC]
   refine rd2 5 ⟨some 30, .call { callee := .value (.func 31), args := #[.tmp 26, .tmp 29], argTypes := #[61, 3] }, 26, "l05_lp.go:190", #[⟨1, .data⟩, ⟨4, .data⟩], none⟩ fun K hK => ?_
   go_simp
   (refine (spec_l4DrawI w.heap.size p C.length _ rfl (by omega) a len cap _ hbp (show Cur w6.drew p a len cap from HU.out) (Hc.out.below HB.out.drew)).mono ?_; rintro e w7 ⟨v7, x7, rfl, hxl, hx7, hc7, ho7⟩; have ho8 := ho0.trans ho7)
   refine hK.out _ _ ?_ (fun hHeld => ?_)
   ·
    exact Cell.out _ ho8
   clear hK K
   try simp only [Act.put, zA, zB, zC]
   have hT7 : Tri w7 w.heap.size (.slice none 0 0) (.slice none 0 0) (.slice none 0 0) 28 := (ho8.block (by omega) (lt_of_at HT.out)).trans HT.out
   obtain ⟨_, _, _, y0, y1, y2⟩ := hT7.cells
   refine rd3 6 ⟨none, .store 28 (.tmp 2) (.tmp 25), 0, "l05_lp.go:190", #[⟨0, .data⟩, ⟨5, .chain⟩, ⟨0, .phase⟩, ⟨1, .textOnly .lateStores⟩, ⟨2, .textOnly .lateStores⟩, ⟨3, .textOnly .lateStores⟩, ⟨4, .textOnly .lateStoresUnsure⟩, ⟨5, .textOnly .lateStoresUnsure⟩], none⟩ fun K hK => ?_
   go_simp
   refine hK.out _ _ ?_
   clear hK K
   refine rd3 7 ⟨some 3, .assign (.tmp 30), 26, "l05_lp.go:190", #[⟨5, .data⟩, ⟨6, .chain⟩, ⟨0, .phase⟩, ⟨1, .phase⟩, ⟨2, .phase⟩, ⟨3, .phase⟩, ⟨4, .phase⟩, ⟨5, .phase⟩, ⟨6, .phase⟩], none⟩ fun K hK => ?_
   go_simp
   refine hK.out _ _ ?_
   clear hK K
   try simp only [Act.put, zA, zB, zC]
   refine wpAnyT_done (by kernel_rfl) ?_ _
   have HTW := hT7
   have HABW := HAB.out.only ho8 (by omega)
   have HCCW := OwnRats.only HCC.out ho8 (by omega)
   have HXW := hx7
   have HBW := HB.out.trans (ho8.below hbp)
   clear hc7 ho7
   have HTf := zH (((HTW.set0 vA).set1 vB).set2 (.slice cc C.length cC))
   have hd := lp_done HABW HCCW HXW HTW vA vB (.slice cc C.length cC)
   have HD := zH hd
   have HBf := zH (((HBW.setCell (p := ⟨w.heap.size, 0, none⟩) (Nat.le_refl _) vA).setCell (p := ⟨w.heap.size, 1, none⟩) (Nat.le_refl _) vB).setCell (p := ⟨w.heap.size, 2, none⟩) (Nat.le_refl _) (.slice cc C.length cC))
   clear hd
   go_wp2_with fail
   refine bodyPost_ret (v := .tuple #[.agg #[vA, vB, .slice cc C.length cC], v7]) (by
    obtain ⟨z0, z1, z2, _⟩ := HTf.out.cells
    revert z0 z1 z2
    generalize (World.setCell _ (⟨w.heap.size, 2, none⟩ : Addr) (.slice cc C.length cC)) = W4
    intro z0 z1 z2
    simp [results, Try.results7, go_sem, z0, z1, z2]) rfl ⟨_, _, _, _, ⟨A, Bv, C⟩, x7, rfl, HD.out.1, hF.out, HD.out.2, by omega, HBf.out⟩
 ·
  have hd : decide ((XS.length : Int) > 0) = false := by rw [decide_eq_false_iff_not]; omega
  clear m0' m1' m2'
  obtain ⟨m0, m1, m2, _⟩ := HQ.out.cells
  have ho0 : Only p (w4.alloc O) (w4.alloc O).drew := (Only.refl p (w4.alloc O)).drew
  have Cell := zH (fun w' (h : Only p (w4.alloc O) w') => (show w'.cell? ⟨q, 0, none⟩ = some vA ∧ w'.cell? ⟨q, 1, none⟩ = some vB ∧ w'.cell? ⟨q, 2, none⟩ = some (.slice cc C.length cC) from ⟨h.cell (a := ⟨q, 0, none⟩) hqp m0, h.cell (a := ⟨q, 1, none⟩) hqp m1, h.cell (a := ⟨q, 2, none⟩) hqp m2⟩))
  go_upto_region 6 with fail
  try rw [Hr'.out, ← HO.out]
  have tA := sto HOne.out.1
  have tB := sto HOne.out.2
  refine wp_region_T_drew (S := (fun w' => w'.cell? ⟨q, 0, none⟩ = some vA ∧ w'.cell? ⟨q, 1, none⟩ = some vB ∧ w'.cell? ⟨q, 2, none⟩ = some (.slice cc C.length cC))) 6 (by kernel_rfl) ?_ (fun hHeld => ?_)
  ·
   exact Cell.out _ ho0
  refine tk2 0 ⟨some 25, .load 28 (.tmp 5), 28, "l05_lp.go:190", #[], none⟩ ?_
  refine tk2 1 ⟨some 26, .move (.tmp 4), 61, "l05_lp.go:190", #[], none⟩ ?_
  refine tk2 2 ⟨some 27, .fieldAddr 28 (.tmp 5) 2, 0, "l05_lp.go:190", #[], none⟩ ?_
  refine tk2 3 ⟨some 28, .load 26 (.tmp 27), 26, "l05_lp.go:190", #[⟨2, .data⟩], none⟩ ?_
  refine tk2 4 ⟨some 29, .call { callee := .builtin Builtin.len, args := #[.tmp 28], argTypes := #[26] }, 3, "l05_lp.go:190", #[⟨3, .data⟩], none⟩ ?_
  try simp only [Act.put, zA, zB, zC]
  refine rd2 5 ⟨some 30, .call { callee := .value (.func 31), args := #[.tmp 26, .tmp 29], argTypes := #[61, 3] }, 26, "l05_lp.go:190", #[⟨1, .data⟩, ⟨4, .data⟩], none⟩ fun K hK => ?_
  go_simp
  (refine (spec_l4DrawI w.heap.size p C.length _ rfl (by omega) a len cap _ hbp (show Cur (w4.alloc O).drew p a len cap from HU.out) (Hc.out.below HB.out.drew)).mono ?_; rintro e w7 ⟨v7, x7, rfl, hxl, hx7, hc7, ho7⟩; have ho8 := ho0.trans ho7)
  refine hK.out _ _ ?_ (fun hHeld => ?_)
  ·
   exact Cell.out _ ho8
  clear hK K
  try simp only [Act.put, zA, zB, zC]
  have hT7 : Tri w7 w.heap.size (.slice none 0 0) (.slice none 0 0) (.slice none 0 0) 28 := (ho8.block (by omega) (lt_of_at HT.out)).trans HT.out
  obtain ⟨_, _, _, y0, y1, y2⟩ := hT7.cells
  refine rd3 6 ⟨none, .store 28 (.tmp 2) (.tmp 25), 0, "l05_lp.go:190", #[⟨0, .data⟩, ⟨5, .chain⟩, ⟨0, .phase⟩, ⟨1, .textOnly .lateStores⟩, ⟨2, .textOnly .lateStores⟩, ⟨3, .textOnly .lateStores⟩, ⟨4, .textOnly .lateStoresUnsure⟩, ⟨5, .textOnly .lateStoresUnsure⟩], none⟩ fun K hK => ?_
  go_simp
  refine hK.out _ _ ?_
  clear hK K
  refine rd3 7 ⟨some 3, .assign (.tmp 30), 26, "l05_lp.go:190", #[⟨5, .data⟩, ⟨6, .chain⟩, ⟨0, .phase⟩, ⟨1, .phase⟩, ⟨2, .phase⟩, ⟨3, .phase⟩, ⟨4, .phase⟩, ⟨5, .phase⟩, ⟨6, .phase⟩], none⟩ fun K hK => ?_
  go_simp
  refine hK.out _ _ ?_
  clear hK K
  try simp only [Act.put, zA, zB, zC]
  refine wpAnyT_done (by kernel_rfl) ?_ _
  have HTW := hT7
  have HABW := HAB.out.only ho8 (by omega)
  have HCCW := OwnRats.only HCC.out ho8 (by omega)
  have HXW := hx7
  have HBW := HB.out.trans (ho8.below hbp)
  clear hc7 ho7
  have HTf := zH (((HTW.set0 vA).set1 vB).set2 (.slice cc C.length cC))
  have hd := lp_done HABW HCCW HXW HTW vA vB (.slice cc C.length cC)
  have HD := zH hd
  have HBf := zH (((HBW.setCell (p := ⟨w.heap.size, 0, none⟩) (Nat.le_refl _) vA).setCell (p := ⟨w.heap.size, 1, none⟩) (Nat.le_refl _) vB).setCell (p := ⟨w.heap.size, 2, none⟩) (Nat.le_refl _) (.slice cc C.length cC))
  clear hd
  go_wp2_with fail
  refine bodyPost_ret (v := .tuple #[.agg #[vA, vB, .slice cc C.length cC], v7]) (by
   obtain ⟨z0, z1, z2, _⟩ := HTf.out.cells
   revert z0 z1 z2
   generalize (World.setCell _ (⟨w.heap.size, 2, none⟩ : Addr) (.slice cc C.length cC)) = W4
   intro z0 z1 z2
   simp [results, Try.results7, go_sem, z0, z1, z2]) rfl ⟨_, _, _, _, ⟨A, Bv, C⟩, x7, rfl, HD.out.1, hF.out, HD.out.2, by omega, HBf.out⟩
end Go.Proofs.Ytmjmjilpcekngaa

namespace Go.Proofs.Ytmjmjilpcekngaa
open Go.RowKit
open Ve (R)
open Ta (T)
open Lp (P Res)
def DrewRes (pc : Nat) (a : Option Addr) (len cap : Nat) (w : World) (e : Ending) (w' : World) : Prop :=
 ∃ (u0 u1 u2 u3 u4 u5 u6 : Value) (r : Res), e = .returned (.agg #[u0, u1, u2, u3, u4, u5, u6]) ∧ ResC w' u0 u1 u2 u3 u4 u5 u6 r ∧ (OwnRats w.heap.size w' u1 r.X ∧ OwnRats w.heap.size w' u2 r.Y ∧ OwnRats w.heap.size w' u3 r.ray) ∧ ResFits r ∧ (0 ≤ r.status ∧ r.status ≤ 4) ∧ Cur w' pc a len cap ∧ Only pc w w'
theorem solve_status (p : P) : 0 ≤ (Ta.solve p).status ∧ (Ta.solve p).status ≤ 4 := by
 rcases Ta.solve_chk p with h | ⟨_, h⟩ | ⟨_, h⟩
 ·
  obtain ⟨_, h1⟩ := Lp.chk_parts h
  rcases h1 with ⟨e, _⟩ | ⟨e, _⟩ | ⟨e, _⟩ <;> omega
 ·
  rw [h]; decide
 ·
  rw [h]; decide
theorem res_done {lo1 lo2 lo3 s : Nat} {w : World} {a b c : Option Addr} {c1 c2 c3 : Nat} {r : Res} (hX : OwnRats lo1 w (.slice a r.X.length c1) r.X) (hY : OwnRats lo2 w (.slice b r.Y.length c2) r.Y) (hZ : OwnRats lo3 w (.slice c r.ray.length c3) r.ray)
  (h1 : s < lo1) (h2 : s < lo2) (h3 : s < lo3) (y0 y1 y2 y3 y4 y5 y6 : Value) :
  ResC (sets7 w s y0 y1 y2 y3 y4 y5 y6) (.int .i64 r.status) (.slice a r.X.length c1) (.slice b r.Y.length c2) (.slice c r.ray.length c3) (.int .i64 r.value.1) (.int .i64 r.value.2) (.int .i64 r.pivots) r :=
 ⟨a, b, c, c1, c2, c3, rfl, rfl, rfl, rfl, rfl, rfl, rfl, ⟨(own_readsR (sets7_own hX h1 y0 y1 y2 y3 y4 y5 y6)).2, (own_readsR (sets7_own hY h2 y0 y1 y2 y3 y4 y5 y6)).2, (own_readsR (sets7_own hZ h3 y0 y1 y2 y3 y4 y5 y6)).2⟩⟩
theorem cur_sets7 {w : World} {p s : Nat} {a : Option Addr} {len cap : Nat} (h : Cur w p a len cap) (hne : p ≠ s) (y0 y1 y2 y3 y4 y5 y6 : Value) : Cur (sets7 w s y0 y1 y2 y3 y4 y5 y6) p a len cap :=
 ((((((h.setOwn hne 0 y0).setOwn hne 1 y1).setOwn hne 2 y2).setOwn hne 3 y3).setOwn hne 4 y4).setOwn hne 5 y5).setOwn hne 6 y6
theorem gr_cells {w w' : World} {row : Option Nat} {q : Nat} {cs : Array Value} {t : TypeId} (hg : w.grownBy w' row) (h : CellsAt w q cs t) (hne : row ≠ some q) : CellsAt w' q cs t := (hg.block q (lt_of_at h) (fun e => hne e.symm)).trans h
theorem gr_at {w w' : World} {row : Option Nat} {q : Nat} {cs : Array Value} {t : TypeId} (hg : w.grownBy w' row) (h : CellsAt w q cs t) (hne : row ≠ some q) (i : Nat) : w'.cell? ⟨q, i, none⟩ = cs[i]? := (gr_cells hg h hne).cell i
theorem run1_small {p : P} {r : Res} (hv : Lp.vldP p = true) (h : Ta.run1 p = some r) : resN r ≤ 1000 := by
 obtain ⟨_, hC, hA, _, _, _⟩ := Lp.vld_parts hv
 rcases h1 : Ta.ph (Ta.cost1 p) (Ta.start p, 0) with _ | ⟨s1, c1, k1⟩
 ·
  rw [run_a h1] at h; cases h
 ·
  by_cases hs : Ta.sgn (Ta.lastR c1) < 0
  ·
   rw [run_b h1 hs] at h
   injection h with h
   subst h
   simp [resN, Ta.dualR]
   omega
  ·
   have hs' : 0 ≤ Ta.sgn (Ta.lastR c1) := by omega
   rcases h2 : Ta.drive s1 p.A.length with _ | s2
   ·
    rw [run_c h1 hs' h2] at h; cases h
   ·
    rcases h3 : Ta.ph (Ta.cost2 p) s2 with _ | ⟨s3, c3, k3⟩
    ·
     rw [run_d h1 hs' h2 h3] at h; cases h
    ·
     have hS3 := (Ta.ph_ends (Ta.drive_ends (Ta.ph_ends (Ta.same_start hv) h1).1 h2) h3).1
     obtain ⟨_, _, hc0, hc70, _⟩ := same_fits (t := s3.1) (n := s3.2) hv hS3
     have hx : (Ta.xR s3.1).length ≤ 70 := by unfold Ta.xR; rw [List.length_take]; omega
     by_cases hk : 0 ≤ k3
     ·
      rw [run_e h1 hs' h2 h3 hk] at h
      injection h with h
      subst h
      simp only [resN, Ta.rayAt_len, List.length_nil]
      omega
     ·
      rw [run_f h1 hs' h2 h3 hk] at h
      injection h with h
      subst h
      have hd : (Ta.dualR p c3 0).length = p.A.length := by simp [Ta.dualR]
      simp only [resN, hd, List.length_nil]
      omega
theorem solve_small (p : P) : resN (Ta.solve p) ≤ 1000 := by
 rcases hv : Lp.vldP p with _ | _
 ·
  rw [solve_no hv]; simp [resN]
 ·
  rcases hr : Ta.run1 p with _ | r
  ·
   rw [solve_lim hv hr]; simp [resN]
  ·
   rcases hc : Lp.chk p r with _ | _
   ·
    rw [solve_chk_no hv hr hc]; simp [resN]
   ·
    rw [solve_chk_yes hv hr hc]; exact run1_small hv hr
end Go.Proofs.Ytmjmjilpcekngaa

namespace Go.Proofs.Ytmjmjilpcekngaa
open Go.RowKit
open Ve (R)
open Ta (T)
open Lp (P Res)
def DrewPR (w : World) (e : Ending) (w' : World) : Prop :=
 ∃ (x y z u0 u1 u2 u3 u4 u5 u6 : Value) (p : P) (r : Res), e = .returned (.tuple #[.agg #[x, y, z], .agg #[u0, u1, u2, u3, u4, u5, u6]]) ∧ LpC w' x y z p ∧ LpFits p ∧ ResC w' u0 u1 u2 u3 u4 u5 u6 r ∧ ResFits r ∧ (0 ≤ r.status ∧ r.status ≤ 4) ∧ Below w.heap.size w w'
theorem resC_of {lo1 lo2 lo3 : Nat} {w w' : World} {u0 u1 u2 u3 u4 u5 u6 : Value} {r : Res} (h : ResC w u0 u1 u2 u3 u4 u5 u6 r) (h1 : OwnRats lo1 w' u1 r.X) (h2 : OwnRats lo2 w' u2 r.Y) (h3 : OwnRats lo3 w' u3 r.ray) : ResC w' u0 u1 u2 u3 u4 u5 u6 r := by
 obtain ⟨a, b, c, c1, c2, c3, rfl, rfl, rfl, rfl, rfl, rfl, rfl, _⟩ := h
 exact ⟨a, b, c, c1, c2, c3, rfl, rfl, rfl, rfl, rfl, rfl, rfl, ⟨(own_readsR h1).2, (own_readsR h2).2, (own_readsR h3).2⟩⟩
theorem far10 (w : World) (q s : Nat) (z0 z1 z2 y0 y1 y2 y3 y4 y5 y6 : Value) {k : Nat} (h1 : k ≠ q) (h2 : k ≠ s) : (sets7 (((w.setCell ⟨q, 0, none⟩ z0).setCell ⟨q, 1, none⟩ z1).setCell ⟨q, 2, none⟩ z2) s y0 y1 y2 y3 y4 y5 y6).heap[k]? = w.heap[k]? := by
 rw [sets7_block _ _ _ _ _ _ _ _ _ h2, Below.heap_setCell _ _ _ _ h1, Below.heap_setCell _ _ _ _ h1, Below.heap_setCell _ _ _ _ h1]
theorem pr_done {lo q s : Nat} {w w' : World} {vA vB vC u0 u1 u2 u3 u4 u5 u6 : Value} {A : List (List Int)} {B : List Int} {C : List R} {r : Res} (h : OwnAB lo w vA vB A B) (hc : OwnRats lo w vC C) (hr : ResC w u0 u1 u2 u3 u4 u5 u6 r) (h1 : OwnRats lo w u1 r.X) (h2 : OwnRats lo w u2 r.Y) (h3 : OwnRats lo w u3 r.ray)
  (hk : ∀ k, k ≠ q → k ≠ s → w'.heap[k]? = w.heap[k]?) (hq : q < lo) (hs : s < lo) : LpC w' vA vB vC ⟨A, B, C⟩ ∧ ResC w' u0 u1 u2 u3 u4 u5 u6 r := by
 have own : ∀ {u : Value} {xs : List R}, OwnRats lo w u xs → OwnRats lo w' u xs := fun hu => owns_same hu fun g hg => by have := (World.ownsRow.lt hu g hg).1; exact hk g (by omega) (by omega)
 exact ⟨drawn_lp (h.kept fun b hb _ _ => hk b (by omega) (by omega)) (own hc), resC_of hr (own h1) (own h2) (own h3)⟩
end Go.Proofs.Ytmjmjilpcekngaa
