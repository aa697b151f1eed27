/- FnWeakDuality: the walk. -/
import Derived.Test.YtmjmjilpcekngaaGWd
import Derived.Test.YtmjmjilpcekngaaWdC
import Derived.Test.YtmjmjilpcekngaaBig
namespace Go.Proofs.Ytmjmjilpcekngaa
open Go.RowKit
open Ve (R)
open Ta (T)
open Lp (P Res)
theorem below_obj {w w1 : World} (k : Below w.heap.size w w1) (o : Obj) : Below w.heap.size w (w1.alloc o) := k.alloc k.size o
set_option maxRecDepth 100000 in
set_option maxHeartbeats 16000000 in
theorem fnWeakDuality.walk0 (a : Option Addr) (len cap : Nat) (w : World) (hcode : CodeAt w.heap.size w a len) :
  Calls Try.prog 3 #[.slice a len cap] w fun e w' => e = .returned (.bool true) ∧ Below w.heap.size w w' := by
 have Hc := zH hcode
 clear hcode
 by_cases hbig : 1048576 < len
 ·
  go_enter Try.func3, Try.ntmps3
  go_wp2_with fail
  refine (big_yes a len cap hbig w).mono ?_
  rintro e w1 ⟨rfl, rfl⟩
  go_wp2_with fail
  go_ret
  exact ⟨rfl, Below.refl _ _⟩
 ·
  go_enter Try.func3, Try.ntmps3
  go_wp2_with fail
  refine (big_no a len cap (by omega) w).mono ?_
  rintro e wz ⟨rfl, rfl⟩
  go_wp2_with fail
  refine (spec_DrawIsFeasible a len cap w Hc.out).mono ?_
  rintro e w1 ⟨x, y, z, v, p, xs, rfl, hL, hF, hX, hxl, k⟩
  obtain ⟨o0, o1, o2⟩ := hL.one
  have t0 := sto o0
  have t1 := sto o1
  have t2 := sto o2
  obtain ⟨O, hO⟩ : ∃ O, O = Obj.cells #[x, y, z] 28 := ⟨_, rfl⟩
  obtain ⟨W, hW⟩ : ∃ W, W = w1.alloc O := ⟨_, rfl⟩
  obtain ⟨q, hq⟩ : ∃ q, q = w1.heap.size := ⟨_, rfl⟩
  have hT : Tri W q x y z 28 := by rw [hW, hq, hO]; exact Tri.new w1 x y z _
  have up1 : Below w1.heap.size w1 W := by rw [hW]; exact (Below.refl _ _).alloc (Nat.le_refl _) _
  have hB : Below w.heap.size w W := k.trans (up1.mono k.size)
  have HT := zH hT
  have HL := zH (hL.up up1)
  have HX := zH (hX.up up1)
  have HB := zH hB
  have HF := zH hF
  have HO := zH hO
  have HW := zH hW
  have Hq := zH hq
  have Cell := zH (fun w' (hb : Below W.heap.size W w') => (show w'.cell? ⟨q, 0, none⟩ = some x ∧ w'.cell? ⟨q, 1, none⟩ = some y ∧ w'.cell? ⟨q, 2, none⟩ = some z ∧ Below W.heap.size W w' from ⟨(HT.out.below hb).cells.1, (HT.out.below hb).cells.2.1, (HT.out.below hb).cells.2.2.1, hb⟩))
  obtain ⟨m0, m1, m2, _⟩ := hT.cells
  clear hT up1 hB hL hX hF k hO hW hq o0 o1 o2
  go_wp2_with fail
  rw [← HO.out, ← HW.out, ← Hq.out]
  clear HO HW Hq t0 t1 t2
  refine (spec_Solve_c HL.out HF.out).mono ?_
  rintro e w2 ⟨⟨u0, u1, u2, u3, u4, u5, u6, rfl, hr, _, _, _, _⟩, k⟩
  obtain ⟨o0, o1, o2, o3, o4, o5, o6⟩ := hr.one
  have t0 := sto o0
  have t1 := sto o1
  have t2 := sto o2
  have t3 := sto o3
  have t4 := sto o4
  have t5 := sto o5
  have t6 := sto o6
  have HWk := zH (weak (p := p) (xs := xs))
  obtain ⟨S, hS⟩ : ∃ S, Ta.solve p = S := ⟨_, rfl⟩
  rw [hS] at hr HWk
  obtain ⟨st, hst⟩ : ∃ st, S.status = st := ⟨_, rfl⟩
  obtain ⟨vn, hvn⟩ : ∃ vn, S.value.1 = vn := ⟨_, rfl⟩
  obtain ⟨vd, hvd⟩ : ∃ vd, S.value.2 = vd := ⟨_, rfl⟩
  rw [hst, hvn, hvd] at HWk
  obtain ⟨ra, rb, rc, rdX1, rdX2, rdX3, rfl, e1, e2, e3, rfl, rfl, e6, _⟩ := hr
  clear e1 e2 e3 e6
  rw [hst, hvn, hvd] at *
  obtain ⟨O, hO⟩ : ∃ O, O = Obj.cells #[.int .i64 st, u1, u2, u3, .int .i64 vn, .int .i64 vd, u6] 34 := ⟨_, rfl⟩
  obtain ⟨V, hV⟩ : ∃ V, V = w2.alloc O := ⟨_, rfl⟩
  obtain ⟨r, hr⟩ : ∃ r, r = w2.heap.size := ⟨_, rfl⟩
  have hR : CellsAt V r #[.int .i64 st, u1, u2, u3, .int .i64 vn, .int .i64 vd, u6] 34 := by rw [hV, hr, hO]; exact CellsAt.new w2 _ _
  have hBV : Below W.heap.size W V := by rw [hV]; exact k.alloc k.size _
  have HR := zH hR
  have HBV := zH hBV
  have HO := zH hO
  have HV := zH hV
  have Hr := zH hr
  have HLV := zH (HL.out.up hBV)
  have HXV := zH (HX.out.up hBV)
  have HTV := zH (HT.out.below hBV)
  have HBW := zH (HB.out.trans (hBV.mono HB.out.size))
  have CellV := zH (fun w' (hb : Below V.heap.size V w') => (show w'.cell? ⟨q, 0, none⟩ = some x ∧ w'.cell? ⟨q, 1, none⟩ = some y ∧ w'.cell? ⟨q, 2, none⟩ = some z ∧ Below V.heap.size V w' from ⟨(HTV.out.below hb).cells.1, (HTV.out.below hb).cells.2.1, (HTV.out.below hb).cells.2.2.1, hb⟩))
  have HAt := zH (laws_at0 w.heap.size a len cap 3 (by decide) (by omega) V (Hc.out.below HBW.out))
  obtain ⟨n0, n1, n2, _⟩ := Cell.out V hBV
  clear hR hBV k hO hV hr m0 m1 m2 o0 o1 o2 o3 o4 o5 o6 hS hst hvn hvd HL HX HT HB HBV Cell
  go_wp2_with fail
  rw [← HO.out, ← HV.out, ← Hr.out]
  clear HO HV Hr t0 t1 t2 t3 t4 t5 t6
  refine HAt.out.mono ?_
  rintro e w3 ⟨⟨j, rfl, hj0, hj1⟩, rfl⟩
  have hj4 : j.tmod 4 = j % 4 := by rw [Int.tmod_eq_emod_of_nonneg hj0]
  have hb0 : Below V.heap.size V V.drew := (Below.refl _ _).drew
  have IC := zH (fun (j : Int) W' (hb : Below V.heap.size V W') => impl_Col_c (HLV.out.up hb) HF.out j)
  have SC := zH (fun (j : Int) W' (hb : Below V.heap.size V W') => spec_Col_c (HLV.out.up hb) HF.out j)
  have hcs := zH (fun (j : Int) => col_small HF.out j)
  have IF := zH (fun W' (hb : Below V.heap.size V W') => impl_Feas_c (HLV.out.up hb) (HXV.out.up hb) HF.out hxl)
  go_upto_region 6 with fail
  refine wp_region_T_drew (S := (fun w' => w'.cell? ⟨q, 0, none⟩ = some x ∧ w'.cell? ⟨q, 1, none⟩ = some y ∧ w'.cell? ⟨q, 2, none⟩ = some z ∧ Below V.heap.size V w')) 7 (by kernel_rfl) ?_ (fun hHeld => ?_)
  ·
   exact CellV.out _ hb0
  refine tk2 0 ⟨some 21, .load 28 (.tmp 3), 28, "laws.go:244", #[], none⟩ ?_
  refine tk2 1 ⟨some 22, .move (.tmp 6), 3, "laws.go:244", #[], none⟩ ?_
  refine tk2 3 ⟨some 24, .load 28 (.tmp 3), 28, "laws.go:244", #[], none⟩ ?_
  refine tk2 4 ⟨some 25, .move (.tmp 6), 3, "laws.go:244", #[], none⟩ ?_
  try simp only [Act.put, zA, zB, zC]
  refine rd2 2 ⟨some 23, .call { callee := .value (.func 11), args := #[.tmp 21, .tmp 22], argTypes := #[28, 3] }, 25, "laws.go:244", #[⟨0, .data⟩, ⟨1, .data⟩], none⟩ fun K hK => ?_
  go_simp
  (refine (IC.out _ _ hb0).mono ?_; rintro e w5 ⟨v1, rfl, ho1, k5⟩; have hb5 := hb0.trans (k5.mono hb0.size))
  refine hK.out _ _ ?_ (fun hHeld => ?_)
  ·
   exact CellV.out _ hb5
  clear hK K
  try simp only [Act.put, zA, zB, zC]
  refine rd2 5 ⟨some 26, .call { callee := .value (.func 12), args := #[.tmp 24, .tmp 25], argTypes := #[28, 3] }, 25, "laws.go:244", #[⟨3, .data⟩, ⟨4, .data⟩, ⟨2, .chain⟩], none⟩ fun K hK => ?_
  go_simp
  (refine (SC.out _ _ hb5).mono ?_; rintro e w6 ⟨v2, rfl, ho2, k6⟩; have hb6 := hb5.trans (k6.mono hb5.size); have ho1' := ho1.below k6)
  refine hK.out _ _ ?_ (fun hHeld => ?_)
  ·
   exact CellV.out _ hb6
  clear hK K
  try simp only [Act.put, zA, zB, zC]
  refine rd2 6 ⟨some 27, .call { callee := .value (.func 10), args := #[.tmp 23, .tmp 26], argTypes := #[25, 25] }, 4, "laws.go:244", #[⟨2, .data⟩, ⟨5, .data⟩, ⟨5, .chain⟩], none⟩ fun K hK => ?_
  go_simp
  (refine (sameInts_c ho1' ho2 (hcs.out _)).mono ?_; rintro e w7 ⟨rfl, d, rfl⟩; have hb7 := below_drewN hb6 d)
  refine hK.out _ _ ?_ (fun hHeld => ?_)
  ·
   exact CellV.out _ hb7
  clear hK K
  try simp only [Act.put, zA, zB, zC]
  refine rd3 7 ⟨some 28, .unOp .not 4 (.tmp 27), 4, "laws.go:244", #[⟨6, .data⟩], none⟩ fun K hK => ?_
  go_simp
  refine hK.out _ _ ?_
  clear hK K
  try simp only [Act.put, zA, zB, zC]
  refine wpAnyT_done (by kernel_rfl) ?_ _
  have HB7 := zH hb7
  have HXL := zH hxl
  generalize w6.drewN d = W7 at *
  obtain ⟨n0', n1', n2', _⟩ := CellV.out _ hb7
  clear hb0 hb5 hb6 hb7 ho1 ho2 ho1' k5 k6 IC SC hcs n0 n1 n2 hj4 hj0 hj1 hxl
  rcases hfe : Lp.feas p xs with _ | _
  ·
   have HFe := zH hfe
   clear hfe HWk
   go_wp2_with fail
   refine (IF.out _ HB7.out false HFe.out).mono ?_
   rintro e w8 ⟨rfl, k⟩
   have HB8 := zH (HBW.out.trans ((HB7.out.trans (k.mono HB7.out.size)).mono HBW.out.size))
   clear k
   go_wp2_with fail
   go_ret
   exact ⟨rfl, HB8.out⟩
  ·
   have hwk := HWk.out hfe
   have HFe := zH hfe
   have ID := zH (fun W' (hb : Below V.heap.size V W') => impl_Dot_c ((HLV.out.up hb).c) (HXV.out.up hb) HF.out.C HXL.out)
   obtain ⟨dr, hdr⟩ : ∃ dr, Ve.dotR p.C xs = dr := ⟨_, rfl⟩
   obtain ⟨dk, hdk⟩ : ∃ dk, Ve.dotK p.C xs = dk := ⟨_, rfl⟩
   rw [hdr, hdk] at hwk ID
   obtain ⟨dn, dd⟩ := dr
   have hs2 : (st != 2) = true := by rw [bne_iff_ne]; exact hwk.1
   have HK := zH hwk.2
   clear hfe hwk HWk hdr hdk
   go_wp2_with fail
   refine (IF.out _ HB7.out true HFe.out).mono ?_
   rintro e w8 ⟨rfl, k⟩
   have HB8 := zH (HB7.out.trans (k.mono HB7.out.size))
   obtain ⟨_, _, z2, _⟩ := CellV.out _ HB8.out
   clear k n0' n1' n2'
   go_wp2_with fail
   refine (ID.out _ HB8.out).mono ?_
   rintro e w9 ⟨rfl, k⟩
   have HB9 := zH ((HB8.out.trans (k.mono HB8.out.size)).alloc (Nat.le_trans HB8.out.size k.size) (.cells #[.int .i64 dn, .int .i64 dd] 32))
   have HBf := zH (HBW.out.trans (HB9.out.mono HBW.out.size))
   have hR9 := HR.out.below HB9.out
   have r0 := hR9.cell 0
   have r4 := hR9.cell 4
   have r5 := hR9.cell 5
   simp only [List.getElem?_toArray, List.getElem?_cons_succ, List.getElem?_cons_zero] at r0 r4 r5
   clear k z2 hR9
   by_cases h1 : st = 1
   ·
    have hs1 : (st != 1) = false := by rw [h1]; rfl
    rcases dk with _ | _
    ·
     clear HK h1
     go_wp2_with fail
     go_ret
     exact ⟨rfl, HBf.out⟩
    ·
     have hcm := HK.out h1 rfl
     have HCm := zH (impl_CompareRat vn vd dn dd)
     obtain ⟨cm, hcm'⟩ : ∃ cm, Ra.cmp vn vd dn dd = cm := ⟨_, rfl⟩
     rw [hcm'] at hcm HCm
     have hd : decide (cm ≤ 0) = true := decide_eq_true hcm
     clear HK h1 hcm hcm'
     go_wp2_with fail
     refine (HCm.out _).mono ?_
     rintro e w10 ⟨rfl, k⟩
     have HBz := zH (HBf.out.trans (k.mono HBf.out.size))
     clear k r0 r4 r5
     go_wp2_with fail
     go_ret
     exact ⟨rfl, HBz.out⟩
   ·
    have hs1 : (st != 1) = true := by rw [bne_iff_ne]; exact h1
    clear HK h1
    go_wp2_with fail
    go_ret
    exact ⟨rfl, HBf.out⟩
theorem fnWeakDuality.walk (a : Option Addr) (len cap : Nat) (zs : List Int) (w : World) (h : IntsAt .u8 w.heap.size w a len zs) :
  Calls Try.prog 3 #[.slice a len cap] w fun e w' => e = .returned (.bool true) ∧ Below w.heap.size w w' := fnWeakDuality.walk0 a len cap w (code_of h)
end Go.Proofs.Ytmjmjilpcekngaa
