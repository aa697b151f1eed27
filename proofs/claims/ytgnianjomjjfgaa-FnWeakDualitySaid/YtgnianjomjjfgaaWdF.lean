/- FnWeakDuality: the walk. -/
import Derived.Test.YtgnianjomjjfgaaWdB
import Derived.Test.YtgnianjomjjfgaaWdC
import Derived.Test.YtgnianjomjjfgaaBig
namespace Go.Proofs.Ytgnianjomjjfgaa
open Go.RowKit
open Ve (R)
open Ta (T)
open Lp (P Res)
theorem below_obj {w w1 : World} (k : Below w.heap.size w w1) (o : Obj) : Below w.heap.size w (w1.alloc o) := k.alloc k.size o
set_option maxRecDepth 100000 in
set_option maxHeartbeats 16000000 in
theorem fnWeakDuality.walk0 (a : Option Addr) (len cap : Nat) (w : World) (hcode : CodeAt w.heap.size w a len) :
    Calls Try.prog 4 #[.slice a len cap] w fun e w' => e = .returned (.bool true) ∧ Below w.heap.size w w' := by
  have Hc := Lib.hid hcode
  clear hcode
  by_cases hbig : 1048576 < len
  · go_enter Try.func4, Try.ntmps4
    go_wp2_with fail
    refine (big_yes a len cap hbig w).mono ?_
    rintro e w1 ⟨rfl, rfl⟩
    go_wp2_with fail
    go_ret
    exact ⟨rfl, Below.refl _ _⟩
  · go_enter Try.func4, Try.ntmps4
    go_wp2_with fail
    refine (big_no a len cap (by omega) w).mono ?_
    rintro e wz ⟨rfl, rfl⟩
    go_wp2_with fail
    refine (spec_DrawIsFeasible a len cap w Hc.out).mono ?_
    rintro e w1 ⟨x, y, z, v, p, xs, rfl, hL, hF, hX, hxl, k⟩
    obtain ⟨o0, o1, o2⟩ := hL.one
    have t0 := sto o0
    have t1 := sto o1
    have t2 := sto o2
    obtain ⟨O, hO⟩ : ∃ O, O = Obj.cells #[x, y, z] 28 := ⟨_, rfl⟩
    obtain ⟨W, hW⟩ : ∃ W, W = w1.alloc O := ⟨_, rfl⟩
    obtain ⟨q, hq⟩ : ∃ q, q = w1.heap.size := ⟨_, rfl⟩
    have hT : Tri W q x y z 28 := by rw [hW, hq, hO]; exact Tri.new w1 x y z _
    have up1 : Below w1.heap.size w1 W := by rw [hW]; exact (Below.refl _ _).alloc (Nat.le_refl _) _
    have hB : Below w.heap.size w W := k.trans (up1.mono k.size)
    have HT := Lib.hid hT
    have HL := Lib.hid (hL.up up1)
    have HX := Lib.hid (hX.up up1)
    have HB := Lib.hid hB
    have HF := Lib.hid hF
    have HO := Lib.hid hO
    have HW := Lib.hid hW
    have Hq := Lib.hid hq
    have Cell := Lib.hid (fun w' (hb : Below W.heap.size W w') => (show w'.cell? ⟨q, 0, none⟩ = some x ∧ w'.cell? ⟨q, 1, none⟩ = some y ∧ w'.cell? ⟨q, 2, none⟩ = some z ∧ Below W.heap.size W w' from ⟨(HT.out.below hb).cells.1, (HT.out.below hb).cells.2.1, (HT.out.below hb).cells.2.2.1, hb⟩))
    obtain ⟨m0, m1, m2, _⟩ := hT.cells
    clear hT up1 hB hL hX hF k hO hW hq o0 o1 o2
    go_wp2_with fail
    rw [← HO.out, ← HW.out, ← Hq.out]
    clear HO HW Hq t0 t1 t2
    refine (spec_Solve_c HL.out HF.out).mono ?_
    rintro e w2 ⟨⟨u0, u1, u2, u3, u4, u5, u6, rfl, hr, _, _, _, _⟩, k⟩
    obtain ⟨o0, o1, o2, o3, o4, o5, o6⟩ := hr.one
    have t0 := sto o0
    have t1 := sto o1
    have t2 := sto o2
    have t3 := sto o3
    have t4 := sto o4
    have t5 := sto o5
    have t6 := sto o6
    have HWk := Lib.hid (weak (p := p) (xs := xs))
    obtain ⟨S, hS⟩ : ∃ S, Ta.solve p = S := ⟨_, rfl⟩
    rw [hS] at hr HWk
    obtain ⟨st, hst⟩ : ∃ st, S.status = st := ⟨_, rfl⟩
    obtain ⟨vn, hvn⟩ : ∃ vn, S.value.1 = vn := ⟨_, rfl⟩
    obtain ⟨vd, hvd⟩ : ∃ vd, S.value.2 = vd := ⟨_, rfl⟩
    rw [hst, hvn, hvd] at HWk
    obtain ⟨ra, rb, rc, rd1, rd2, rd3, rfl, e1, e2, e3, rfl, rfl, e6, _⟩ := hr
    clear e1 e2 e3 e6
    rw [hst, hvn, hvd] at *
    obtain ⟨O, hO⟩ : ∃ O, O = Obj.cells #[.int .i64 st, u1, u2, u3, .int .i64 vn, .int .i64 vd, u6] 32 := ⟨_, rfl⟩
    obtain ⟨V, hV⟩ : ∃ V, V = w2.alloc O := ⟨_, rfl⟩
    obtain ⟨r, hr⟩ : ∃ r, r = w2.heap.size := ⟨_, rfl⟩
    have hR : CellsAt V r #[.int .i64 st, u1, u2, u3, .int .i64 vn, .int .i64 vd, u6] 32 := by rw [hV, hr, hO]; exact CellsAt.new w2 _ _
    have hBV : Below W.heap.size W V := by rw [hV]; exact k.alloc k.size _
    have HR := Lib.hid hR
    have HBV := Lib.hid hBV
    have HO := Lib.hid hO
    have HV := Lib.hid hV
    have Hr := Lib.hid hr
    have HLV := Lib.hid (HL.out.up hBV)
    have HXV := Lib.hid (HX.out.up hBV)
    have HTV := Lib.hid (HT.out.below hBV)
    have HBW := Lib.hid (HB.out.trans (hBV.mono HB.out.size))
    have CellV := Lib.hid (fun w' (hb : Below V.heap.size V w') => (show w'.cell? ⟨q, 0, none⟩ = some x ∧ w'.cell? ⟨q, 1, none⟩ = some y ∧ w'.cell? ⟨q, 2, none⟩ = some z ∧ Below V.heap.size V w' from ⟨(HTV.out.below hb).cells.1, (HTV.out.below hb).cells.2.1, (HTV.out.below hb).cells.2.2.1, hb⟩))
    have HAt := Lib.hid (laws_at0 w.heap.size a len cap 3 (by decide) (by omega) V (Hc.out.below HBW.out))
    obtain ⟨n0, n1, n2, _⟩ := Cell.out V hBV
    clear hR hBV k hO hV hr m0 m1 m2 o0 o1 o2 o3 o4 o5 o6 hS hst hvn hvd HL HX HT HB HBV Cell
    go_wp2_with fail
    rw [← HO.out, ← HV.out, ← Hr.out]
    clear HO HV Hr t0 t1 t2 t3 t4 t5 t6
    refine HAt.out.mono ?_
    rintro e w3 ⟨⟨j, rfl, hj0, hj1⟩, rfl⟩
    have hj4 : j.tmod 4 = j % 4 := by rw [Int.tmod_eq_emod_of_nonneg hj0]
    have hb0 : Below V.heap.size V V.drew := (Below.refl _ _).drew
    have IC := Lib.hid (fun (j : Int) W' (hb : Below V.heap.size V W') => impl_Col_c (HLV.out.up hb) HF.out j)
    have SC := Lib.hid (fun (j : Int) W' (hb : Below V.heap.size V W') => spec_Col_c (HLV.out.up hb) HF.out j)
    have hcs := Lib.hid (fun (j : Int) => col_small HF.out j)
    have IF := Lib.hid (fun W' (hb : Below V.heap.size V W') => impl_Feas_c (HLV.out.up hb) (HXV.out.up hb) HF.out hxl)
    go_upto_region 6 with fail
    refine wp_region_T_drew (S := (fun w' => w'.cell? ⟨q, 0, none⟩ = some x ∧ w'.cell? ⟨q, 1, none⟩ = some y ∧ w'.cell? ⟨q, 2, none⟩ = some z ∧ Below V.heap.size V w')) 7 (by kernel_rfl) ?_ (fun hHeld => ?_)
    · exact CellV.out _ hb0
    refine wpAnyT_take (i := 0) (oi := { dst := some 21, op := Op.load 28 (Operand.tmp 3), type := 28, pos := "laws.go:244", after := #[], guard := none }) (v := ?_) rfl (by kernel_rfl) (fun _ _ _ h => h) (Or.inl ⟨by rfl, ?_⟩) (by assumption) ?_
    rotate_left 1
    · intro w hSw; (try dsimp only at hSw); go_simp; try (with_reducible rfl)
    try simp only [Act.put, List.setIfInBounds_toArray, List.set_cons_zero, List.set_cons_succ]
    refine wpAnyT_take (i := 1) (oi := { dst := some 22, op := Op.move (Operand.tmp 6), type := 3, pos := "laws.go:244", after := #[], guard := none }) (v := ?_) rfl (by kernel_rfl) (fun _ _ _ h => h) (Or.inl ⟨by rfl, ?_⟩) (by assumption) ?_
    rotate_left 1
    · intro w hSw; (try dsimp only at hSw); go_simp; try (with_reducible rfl)
    try simp only [Act.put, List.setIfInBounds_toArray, List.set_cons_zero, List.set_cons_succ]
    refine wpAnyT_take (i := 3) (oi := { dst := some 24, op := Op.load 28 (Operand.tmp 3), type := 28, pos := "laws.go:244", after := #[], guard := none }) (v := ?_) rfl (by kernel_rfl) (fun _ _ _ h => h) (Or.inl ⟨by rfl, ?_⟩) (by assumption) ?_
    rotate_left 1
    · intro w hSw; (try dsimp only at hSw); go_simp; try (with_reducible rfl)
    try simp only [Act.put, List.setIfInBounds_toArray, List.set_cons_zero, List.set_cons_succ]
    refine wpAnyT_take (i := 4) (oi := { dst := some 25, op := Op.move (Operand.tmp 6), type := 3, pos := "laws.go:244", after := #[], guard := none }) (v := ?_) rfl (by kernel_rfl) (fun _ _ _ h => h) (Or.inl ⟨by rfl, ?_⟩) (by assumption) ?_
    rotate_left 1
    · intro w hSw; (try dsimp only at hSw); go_simp; try (with_reducible rfl)
    try simp only [Act.put, List.setIfInBounds_toArray, List.set_cons_zero, List.set_cons_succ]
    refine wpAnyT_ready (rs := [2]) (by kernel_rfl) (by simp) ?_
    refine (AllReadyT.cons (o := { dst := some 23, op := Op.call { callee := Callee.value (Operand.func 18), args := #[Operand.tmp 21, Operand.tmp 22], argTypes := #[28, 3] }, type := 25, pos := "laws.go:244", after := #[{ on := 0, ground := Ground.data }, { on := 1, ground := Ground.data }], guard := none }) (rs := []) rfl (fun K hK => ?_) AllReadyT.nil)
    go_simp
    (refine (IC.out _ _ hb0).mono ?_; rintro e w5 ⟨v1, rfl, ho1, k5⟩; have hb5 := hb0.trans (k5.mono hb0.size))
    refine hK.out _ _ ?_ (fun hHeld => ?_)
    · exact CellV.out _ hb5
    clear hK K
    try simp only [Act.put, List.setIfInBounds_toArray, List.set_cons_zero, List.set_cons_succ]
    refine wpAnyT_ready (rs := [5]) (by kernel_rfl) (by simp) ?_
    refine (AllReadyT.cons (o := { dst := some 26, op := Op.call { callee := Callee.value (Operand.func 19), args := #[Operand.tmp 24, Operand.tmp 25], argTypes := #[28, 3] }, type := 25, pos := "laws.go:244", after := #[{ on := 3, ground := Ground.data }, { on := 4, ground := Ground.data }, { on := 2, ground := Ground.chain }], guard := none }) (rs := []) rfl (fun K hK => ?_) AllReadyT.nil)
    go_simp
    (refine (SC.out _ _ hb5).mono ?_; rintro e w6 ⟨v2, rfl, ho2, k6⟩; have hb6 := hb5.trans (k6.mono hb5.size); have ho1' := ho1.below k6)
    refine hK.out _ _ ?_ (fun hHeld => ?_)
    · exact CellV.out _ hb6
    clear hK K
    try simp only [Act.put, List.setIfInBounds_toArray, List.set_cons_zero, List.set_cons_succ]
    refine wpAnyT_ready (rs := [6]) (by kernel_rfl) (by simp) ?_
    refine (AllReadyT.cons (o := { dst := some 27, op := Op.call { callee := Callee.value (Operand.func 17), args := #[Operand.tmp 23, Operand.tmp 26], argTypes := #[25, 25] }, type := 4, pos := "laws.go:244", after := #[{ on := 2, ground := Ground.data }, { on := 5, ground := Ground.data }, { on := 5, ground := Ground.chain }], guard := none }) (rs := []) rfl (fun K hK => ?_) AllReadyT.nil)
    go_simp
    (refine (sameInts_c ho1' ho2 (hcs.out _)).mono ?_; rintro e w7 ⟨rfl, d, rfl⟩; have hb7 := below_drewN hb6 d)
    refine hK.out _ _ ?_ (fun hHeld => ?_)
    · exact CellV.out _ hb7
    clear hK K
    try simp only [Act.put, List.setIfInBounds_toArray, List.set_cons_zero, List.set_cons_succ]
    refine wpAnyT_ready (rs := [7]) (by kernel_rfl) (by simp) ?_
    refine (AllReadyT.last (o := { dst := some 28, op := Op.unOp UnOp.not 4 (Operand.tmp 27), type := 4, pos := "laws.go:244", after := #[{ on := 6, ground := Ground.data }], guard := none }) (rs := []) rfl (by rfl) (fun K hK => ?_) AllReadyT.nil)
    go_simp
    refine hK.out _ _ ?_
    clear hK K
    try simp only [Act.put, List.setIfInBounds_toArray, List.set_cons_zero, List.set_cons_succ]
    refine wpAnyT_done (by kernel_rfl) ?_ _
    have HB7 := Lib.hid hb7
    have HXL := Lib.hid hxl
    generalize w6.drewN d = W7 at *
    obtain ⟨n0', n1', n2', _⟩ := CellV.out _ hb7
    clear hb0 hb5 hb6 hb7 ho1 ho2 ho1' k5 k6 IC SC hcs n0 n1 n2 hj4 hj0 hj1 hxl
    rcases hfe : Lp.feas p xs with _ | _
    · have HFe := Lib.hid hfe
      clear hfe HWk
      go_wp2_with fail
      refine (IF.out _ HB7.out false HFe.out).mono ?_
      rintro e w8 ⟨rfl, k⟩
      have HB8 := Lib.hid (HBW.out.trans ((HB7.out.trans (k.mono HB7.out.size)).mono HBW.out.size))
      clear k
      go_wp2_with fail
      go_ret
      exact ⟨rfl, HB8.out⟩
    · have hwk := HWk.out hfe
      have HFe := Lib.hid hfe
      have ID := Lib.hid (fun W' (hb : Below V.heap.size V W') => impl_Dot_c ((HLV.out.up hb).c) (HXV.out.up hb) HF.out.C HXL.out)
      obtain ⟨dr, hdr⟩ : ∃ dr, Ve.dotR p.C xs = dr := ⟨_, rfl⟩
      obtain ⟨dk, hdk⟩ : ∃ dk, Ve.dotK p.C xs = dk := ⟨_, rfl⟩
      rw [hdr, hdk] at hwk ID
      obtain ⟨dn, dd⟩ := dr
      have hs2 : (st != 2) = true := by rw [bne_iff_ne]; exact hwk.1
      have HK := Lib.hid hwk.2
      clear hfe hwk HWk hdr hdk
      go_wp2_with fail
      refine (IF.out _ HB7.out true HFe.out).mono ?_
      rintro e w8 ⟨rfl, k⟩
      have HB8 := Lib.hid (HB7.out.trans (k.mono HB7.out.size))
      obtain ⟨_, _, z2, _⟩ := CellV.out _ HB8.out
      clear k n0' n1' n2'
      go_wp2_with fail
      refine (ID.out _ HB8.out).mono ?_
      rintro e w9 ⟨rfl, k⟩
      have HB9 := Lib.hid ((HB8.out.trans (k.mono HB8.out.size)).alloc (Nat.le_trans HB8.out.size k.size) (.cells #[.int .i64 dn, .int .i64 dd] 30))
      have HBf := Lib.hid (HBW.out.trans (HB9.out.mono HBW.out.size))
      have hR9 := HR.out.below HB9.out
      have r0 := hR9.cell 0
      have r4 := hR9.cell 4
      have r5 := hR9.cell 5
      simp only [List.getElem?_toArray, List.getElem?_cons_succ, List.getElem?_cons_zero] at r0 r4 r5
      clear k z2 hR9
      by_cases h1 : st = 1
      · have hs1 : (st != 1) = false := by rw [h1]; rfl
        rcases dk with _ | _
        · clear HK h1
          go_wp2_with fail
          go_ret
          exact ⟨rfl, HBf.out⟩
        · have hcm := HK.out h1 rfl
          have HCm := Lib.hid (impl_CompareRat vn vd dn dd)
          obtain ⟨cm, hcm'⟩ : ∃ cm, Ra.cmp vn vd dn dd = cm := ⟨_, rfl⟩
          rw [hcm'] at hcm HCm
          have hd : decide (cm ≤ 0) = true := decide_eq_true hcm
          clear HK h1 hcm hcm'
          go_wp2_with fail
          refine (HCm.out _).mono ?_
          rintro e w10 ⟨rfl, k⟩
          have HBz := Lib.hid (HBf.out.trans (k.mono HBf.out.size))
          clear k r0 r4 r5
          go_wp2_with fail
          go_ret
          exact ⟨rfl, HBz.out⟩
      · have hs1 : (st != 1) = true := by rw [bne_iff_ne]; exact h1
        clear HK h1
        go_wp2_with fail
        go_ret
        exact ⟨rfl, HBf.out⟩
theorem fnWeakDuality.walk (a : Option Addr) (len cap : Nat) (zs : List Int) (w : World) (h : IntsAt .u8 w.heap.size w a len zs) :
    Calls Try.prog 4 #[.slice a len cap] w fun e w' => e = .returned (.bool true) ∧ Below w.heap.size w w' := fnWeakDuality.walk0 a len cap w (code_of h)
end Go.Proofs.Ytgnianjomjjfgaa
