/- DrawIsFeasible: a linear program and a point. -/
import Derived.Test.YtgnianjomjjfgaaWdA
import Derived.Test.YtgnianjomjjfgaaHeldT
namespace Go.Proofs.Ytgnianjomjjfgaa
open Go.RowKit
open Ve (R)
open Ta (T)
open Lp (P Res)
def DrewFeas (w : World) (e : Ending) (w' : World) : Prop :=
  ∃ (x y z v : Value) (p : P) (xs : List R), e = .returned (.tuple #[.agg #[x, y, z], v]) ∧ LpC w' x y z p ∧ LpFits p ∧ InRats w' v xs ∧ xs.length ≤ 1048576 ∧ Below w.heap.size w w'
theorem res_u1 {w : World} {u0 u1 u2 u3 u4 u5 u6 : Value} {r : Res} (h : ResC w u0 u1 u2 u3 u4 u5 u6 r) : ∃ (a : Option Addr) (c : Nat), u1 = .slice a r.X.length c := by
  obtain ⟨a, b, c, c1, c2, c3, e0, e1, _⟩ := h
  exact ⟨a, c1, e1⟩
/-- The answer's three cells are written: what lies in younger blocks stays. -/
theorem lp_done {lo lo2 lo3 q : Nat} {w : World} {vA vB vC v y0 y1 y2 : Value} {A : List (List Int)} {B : List Int} {C xs : List R} (h : OwnAB lo w vA vB A B) (hc : OwnRats lo2 w vC C) (hx : OwnRats lo3 w v xs) (ht : Tri w q y0 y1 y2 28) (z0 z1 z2 : Value) :
    LpC (((w.setCell ⟨q, 0, none⟩ z0).setCell ⟨q, 1, none⟩ z1).setCell ⟨q, 2, none⟩ z2) vA vB vC ⟨A, B, C⟩ ∧ InRats (((w.setCell ⟨q, 0, none⟩ z0).setCell ⟨q, 1, none⟩ z1).setCell ⟨q, 2, none⟩ z2) v xs := by
  have t0 := ht.set0 z0
  have t1 := t0.set1 z1
  have hcq := own_away hc (tri_ty ht) lp_ne.2.2.2.2.1
  have hxq := own_away hx (tri_ty ht) lp_ne.2.2.2.2.1
  have hab := ((h.set (i := 0) (u := z0) (tri_ty ht) lp_ne.1 lp_ne.2.1).set (i := 1) (u := z1) (tri_ty t0) lp_ne.1 lp_ne.2.1).set (i := 2) (u := z2) (tri_ty t1) lp_ne.1 lp_ne.2.1
  exact ⟨drawn_lp hab (owns_set (i := 2) (u := z2) (owns_set (i := 1) (u := z1) (owns_set (i := 0) (u := z0) hc hcq) hcq) hcq), own_inR (owns_set (i := 2) (u := z2) (owns_set (i := 1) (u := z1) (owns_set (i := 0) (u := z0) hx hxq) hxq) hxq)⟩
set_option maxRecDepth 100000 in
set_option maxHeartbeats 8000000 in
theorem spec_DrawIsFeasible (a : Option Addr) (len cap : Nat) (w : World) (hcode : CodeAt w.heap.size w a len) :
    Calls Try.prog 12 #[.slice a len cap] w (DrewFeas w) := by
  have Hc := Lib.hid hcode
  have HN0 := Lib.hid (Tri.new w (.slice none 0 0) (.slice none 0 0) (.slice none 0 0) 28)
  have HB0 := Lib.hid ((Below.refl w.heap.size w).alloc (Nat.le_refl _) (.cells #[.slice none 0 0, .slice none 0 0, .slice none 0 0] 28))
  have Hs0 := Lib.hid (size1 w (.cells #[.slice none 0 0, .slice none 0 0, .slice none 0 0] 28))
  clear hcode
  go_enter Try.func12, Try.ntmps12
  go_wp2_with fail
  generalize w.alloc (.cells #[.slice none 0 0, .slice none 0 0, .slice none 0 0] 28) = W0 at *
  refine (spec_l1New w.heap.size a len cap W0 (Hc.out.below HB0.out)).mono ?_
  rintro e w1 ⟨rfl, hc1, hb1, hsz1⟩
  have HC1 := Lib.hid hc1
  have HB1 := Lib.hid hb1
  clear hc1 hb1
  obtain ⟨p, hp⟩ : ∃ p, W0.heap.size = p := ⟨_, rfl⟩
  have hp0 : p = w.heap.size + 1 := by rw [← hp]; exact Hs0.out
  have hp1 : w.heap.size < p ∧ p ≤ w.heap.size + 1 := by omega
  rw [hp] at HC1 HB1 hsz1 ⊢
  have hpl : p < w1.heap.size := HC1.out.lt
  have hT1 : Tri w1 w.heap.size (.slice none 0 0) (.slice none 0 0) (.slice none 0 0) 28 := (HB1.out.block _ (by omega)).trans HN0.out
  have HT := Lib.hid hT1
  have HB := Lib.hid (HB0.out.trans (HB1.out.mono (by omega)))
  have hbp : w.heap.size ≤ p := by omega
  clear hT1 HN0 HB0 HB1 Hs0 hp hp0 hsz1
  go_wp2_with fail
  refine (spec_l5Bent w.heap.size p a len cap w1 hbp HC1.out (Hc.out.below HB.out)).mono ?_
  rintro e w2 ⟨vA, vB, vC, A, Bv, C, rfl, hM, hab, hc, hcu, ho⟩
  have hF := Lib.hid (mid_fits hM)
  have hCl : C.length ≤ 6 := hM.c6
  have hl := drawn_lp hab hc
  obtain ⟨o0, o1, o2⟩ := hl.one
  have HOne := Lib.hid (And.intro o0 o1)
  have t0 := sto o0
  have t1 := sto o1
  obtain ⟨cc, cC, rfl, _⟩ := own_rats hc
  have t2 := sto o2
  have hsz2 : w1.heap.size ≤ w2.heap.size := ho.low.size
  replace HT := Lib.hid (show Tri w2 w.heap.size (.slice none 0 0) (.slice none 0 0) (.slice none 0 0) 28 from (ho.block (by omega) (lt_of_at HT.out)).trans HT.out)
  replace HB := Lib.hid (HB.out.trans (ho.below hbp))
  have HAB := Lib.hid (hab.below ((Below.refl _ _).alloc (Nat.le_refl _) (.cells #[vA, vB, .slice cc C.length cC] 28)))
  have HCC : Hid (OwnRats w1.heap.size _ _ _) := hc.alloc (.cells #[vA, vB, .slice cc C.length cC] 28)
  have HL := Lib.hid (hl.up ((Below.refl _ _).alloc (Nat.le_refl _) (.cells #[vA, vB, .slice cc C.length cC] 28)))
  have HU := Lib.hid (hcu.alloc (.cells #[vA, vB, .slice cc C.length cC] 28))
  have HQ := Lib.hid (Tri.new w2 vA vB (.slice cc C.length cC) 28)
  replace HT := Lib.hid (HT.out.more (.cells #[vA, vB, .slice cc C.length cC] 28))
  replace HB := Lib.hid (HB.out.alloc HB.out.size (.cells #[vA, vB, .slice cc C.length cC] 28))
  have hs3 := size1 w2 (.cells #[vA, vB, .slice cc C.length cC] 28)
  obtain ⟨q, hq⟩ : ∃ q, w2.heap.size = q := ⟨_, rfl⟩
  obtain ⟨m0, m1, m2, _⟩ := HQ.out.cells
  rw [hq] at HQ hs3 hsz2 m0 m1 m2
  have hs3l : q < (w2.alloc (.cells #[vA, vB, .slice cc C.length cC] 28)).heap.size := by omega
  have Hq := Lib.hid hq
  clear hab hc hcu ho hl o0 o1 o2 hM HC1 hq hs3
  go_wp2_with fail
  rw [Hq.out]
  clear Hq t0 t1 t2
  generalize w2.alloc (.cells #[vA, vB, .slice cc C.length cC] 28) = W3 at *
  refine (spec_Solve_c HL.out hF.out).mono ?_
  rintro e w4 ⟨⟨u0, u1, u2, u3, u4, u5, u6, rfl, hr, hX, _, _, _⟩, k⟩
  obtain ⟨o0, o1, o2, o3, o4, o5, o6⟩ := hr.one
  have t0 := sto o0
  have t2 := sto o2
  have t3 := sto o3
  have t4 := sto o4
  have t5 := sto o5
  have t6 := sto o6
  obtain ⟨ax, cx, rfl⟩ := res_u1 hr
  have t1 := sto o1
  have hxf := (solve_fits ⟨A, Bv, C⟩).1
  obtain ⟨XS, hXS⟩ : ∃ XS, (Ta.solve ⟨A, Bv, C⟩).X = XS := ⟨_, rfl⟩
  rw [hXS] at hX hxf t1 o1 ⊢
  have hs4 := k.size
  obtain ⟨O, hO⟩ : ∃ O, O = Obj.cells #[u0, .slice ax XS.length cx, u2, u3, u4, u5, u6] 32 := ⟨_, rfl⟩
  have kk := k.alloc hs4 O
  have HX : Hid (OwnRats W3.heap.size _ _ _) := hX.alloc O
  replace HAB := Lib.hid (HAB.out.below kk)
  replace HCC : Hid (OwnRats w1.heap.size _ _ _) := (OwnRats.below HCC.out kk)
  replace HU := Lib.hid (HU.out.below kk)
  replace HQ := Lib.hid (show Tri (w4.alloc O) q vA vB (.slice cc C.length cC) 28 from (kk.block _ (lt_of_at HQ.out)).trans HQ.out)
  replace HT := Lib.hid (show Tri (w4.alloc O) w.heap.size (.slice none 0 0) (.slice none 0 0) (.slice none 0 0) 28 from (kk.block _ (lt_of_at HT.out)).trans HT.out)
  replace HB := Lib.hid (HB.out.trans (kk.mono HB.out.size))
  have HR := Lib.hid (hO ▸ CellsAt.new w4 #[u0, .slice ax XS.length cx, u2, u3, u4, u5, u6] 32 : CellsAt (w4.alloc O) w4.heap.size #[u0, .slice ax XS.length cx, u2, u3, u4, u5, u6] 32)
  obtain ⟨r, hr'⟩ : ∃ r, w4.heap.size = r := ⟨_, rfl⟩
  rw [hr'] at HR
  have hqp : q ≠ p := by omega
  have hrp : r ≠ p := by omega
  have hxp : p < W3.heap.size := by omega
  have hqw : w.heap.size < q := by omega
  have hrw : w.heap.size < r := by omega
  have n1 := HR.out.cell 1
  simp only [List.getElem?_toArray, List.getElem?_cons_succ, List.getElem?_cons_zero] at n1
  obtain ⟨m0', m1', m2', _⟩ := HQ.out.cells
  have Hr' := Lib.hid hr'
  have HO := Lib.hid hO
  clear k kk hr hX m0 m1 m2 HL hXS hr' hO hs4
  by_cases hx0 : 0 < XS.length
  · have hd : decide ((XS.length : Int) > 0) = true := by rw [decide_eq_true_iff]; omega
    go_wp2_with fail
    rw [Hr'.out, ← HO.out]
    generalize w4.alloc O = W5 at *
    refine (spec_l1Once w.heap.size p a len cap 4 (by decide) (by decide) W5 hbp HU.out (Hc.out.below HB.out)).mono ?_
    rintro e w6 ⟨b, rfl, hc6, ho6⟩
    replace HU := Lib.hid hc6
    replace HAB := Lib.hid (HAB.out.only ho6 (by omega))
    replace HCC : Hid (OwnRats w1.heap.size _ _ _) := (OwnRats.only HCC.out ho6 (by omega))
    replace HX : Hid (OwnRats W3.heap.size _ _ _) := (OwnRats.only HX.out ho6 (by omega))
    replace HQ := Lib.hid (show Tri w6 q vA vB (.slice cc C.length cC) 28 from (ho6.block hqp (lt_of_at HQ.out)).trans HQ.out)
    replace HT := Lib.hid (show Tri w6 w.heap.size (.slice none 0 0) (.slice none 0 0) (.slice none 0 0) 28 from (ho6.block (by omega) (lt_of_at HT.out)).trans HT.out)
    replace HR := Lib.hid (HR.out.only ho6 hrp)
    replace HB := Lib.hid (HB.out.trans (ho6.below hbp))
    clear hc6 ho6 n1 m0' m1' m2'
    rcases b with _ | _
    · have hbb : True := trivial
      obtain ⟨m0, m1, m2, _⟩ := HQ.out.cells
      have n1 := HR.out.cell 1
      simp only [List.getElem?_toArray, List.getElem?_cons_succ, List.getElem?_cons_zero] at n1
      obtain ⟨_, _, _, y0, y1, y2⟩ := HT.out.cells
      have hQs := ((HQ.out.other (p := ⟨w.heap.size, 0, none⟩) (show w.heap.size ≠ q by omega) vA).other (p := ⟨w.heap.size, 1, none⟩) (show w.heap.size ≠ q by omega) vB).other (p := ⟨w.heap.size, 2, none⟩) (show w.heap.size ≠ q by omega) (.slice cc C.length cC)
      have hRs := ((HR.out.other (p := ⟨w.heap.size, 0, none⟩) (show w.heap.size ≠ r by omega) vA).other (p := ⟨w.heap.size, 1, none⟩) (show w.heap.size ≠ r by omega) vB).other (p := ⟨w.heap.size, 2, none⟩) (show w.heap.size ≠ r by omega) (.slice cc C.length cC)
      have HQs := Lib.hid (And.intro hQs.cells (hRs.cell 1))
      clear hQs hRs
      have tA := sto HOne.out.1
      have tB := sto HOne.out.2
      go_upto_region 5 with fail
      refine wp_region_held_drew (S := fun w' => w'.cell? ⟨q, 0, none⟩ = some vA ∧ w'.cell? ⟨q, 1, none⟩ = some vB ∧ w'.cell? ⟨q, 2, none⟩ = some (.slice cc C.length cC) ∧ w'.cell? ⟨r, 1, none⟩ = some (.slice ax XS.length cx)) (by kernel_rfl) ?_ (fun hHeld => ?_)
      · exact ⟨m0, m1, m2, n1⟩
      refine wpAnyH_take (i := 0) (oi := { dst := some 22, op := Op.load 28 (Operand.tmp 5), type := 28, pos := "l05_lp.go:188", after := #[], guard := none }) (v := ?_) rfl (by kernel_rfl) (by kernel_rfl) (by kernel_rfl) (fun _ _ _ h => h) (Or.inl ⟨by rfl, ?_⟩) (by assumption) ?_
      rotate_left 1
      · intro w hSw; (try dsimp only at hSw); go_simp; try (with_reducible rfl)
      try simp only [Act.put, List.setIfInBounds_toArray, List.set_cons_zero, List.set_cons_succ]
      refine wpAnyH_take (i := 1) (oi := { dst := some 23, op := Op.fieldAddr 32 (Operand.tmp 6) 1, type := 0, pos := "l05_lp.go:188", after := #[{ on := 3, ground := Ground.gcOnly Departure.lateStores }], guard := none }) (v := ?_) rfl (by kernel_rfl) (by kernel_rfl) (by kernel_rfl) (fun _ _ _ h => h) (Or.inl ⟨by rfl, ?_⟩) (by assumption) ?_
      rotate_left 1
      · intro w hSw; (try dsimp only at hSw); go_simp; try (with_reducible rfl)
      try simp only [Act.put, List.setIfInBounds_toArray, List.set_cons_zero, List.set_cons_succ]
      refine wpAnyH_take (i := 2) (oi := { dst := some 24, op := Op.load 26 (Operand.tmp 23), type := 26, pos := "l05_lp.go:188", after := #[{ on := 1, ground := Ground.data }, { on := 3, ground := Ground.gcOnly Departure.lateStores }], guard := none }) (v := ?_) rfl (by kernel_rfl) (by kernel_rfl) (by kernel_rfl) (fun _ _ _ h => h) (Or.inl ⟨by rfl, ?_⟩) (by assumption) ?_
      rotate_left 1
      · intro w hSw; (try dsimp only at hSw); go_simp; try (with_reducible rfl)
      try simp only [Act.put, List.setIfInBounds_toArray, List.set_cons_zero, List.set_cons_succ]
      refine wpAnyH_ready (rs := [3]) (by kernel_rfl) (by simp) ?_
      refine AllReadyH.cons (o := { dst := none, op := Op.store 28 (Operand.tmp 2) (Operand.tmp 22), type := 0, pos := "l05_lp.go:188", after := #[{ on := 0, ground := Ground.data }, { on := 0, ground := Ground.phase }, { on := 1, ground := Ground.textOnly Departure.lateStores }, { on := 2, ground := Ground.textOnly Departure.lateStores }], guard := none }) (rs := []) rfl (fun K hK => ?_) AllReadyH.nil
      go_simp
      skip
      refine hK.out _ _ ?_ (fun hHeld => ?_)
      · exact ⟨HQs.out.1.1, HQs.out.1.2.1, HQs.out.1.2.2.1, HQs.out.2⟩
      clear hK K
      try simp only [Act.put, List.setIfInBounds_toArray, List.set_cons_zero, List.set_cons_succ]
      refine wpAnyH_take (i := 4) (oi := { dst := some 3, op := Op.assign (Operand.tmp 24), type := 26, pos := "l05_lp.go:188", after := #[{ on := 2, ground := Ground.data }, { on := 3, ground := Ground.chain }, { on := 0, ground := Ground.phase }, { on := 1, ground := Ground.phase }, { on := 2, ground := Ground.phase }, { on := 3, ground := Ground.phase }], guard := none }) (v := ?_) rfl (by kernel_rfl) (by kernel_rfl) (by kernel_rfl) (fun _ _ _ h => h) (Or.inl ⟨by rfl, ?_⟩) (by assumption) ?_
      rotate_left 1
      · intro w hSw; (try dsimp only at hSw); go_simp; try (with_reducible rfl)
      try simp only [Act.put, List.setIfInBounds_toArray, List.set_cons_zero, List.set_cons_succ]
      refine wpAnyH_done (by kernel_rfl) ?_ _
      have HTW := HT.out
      have HABW := HAB.out
      have HCCW := HCC.out
      have HXW := HX.out
      have HBW := HB.out
      have HTf := Lib.hid (((HTW.set0 vA).set1 vB).set2 (.slice cc C.length cC))
      have hd := lp_done HABW HCCW HXW HTW vA vB (.slice cc C.length cC)
      have HD := Lib.hid hd
      have HBf := Lib.hid (((HBW.setCell (p := ⟨w.heap.size, 0, none⟩) (Nat.le_refl _) vA).setCell (p := ⟨w.heap.size, 1, none⟩) (Nat.le_refl _) vB).setCell (p := ⟨w.heap.size, 2, none⟩) (Nat.le_refl _) (.slice cc C.length cC))
      clear hd
      go_wp2_with fail
      refine bodyPost_ret (v := .tuple #[.agg #[vA, vB, .slice cc C.length cC], .slice ax XS.length cx]) (by
        obtain ⟨z0, z1, z2, _⟩ := HTf.out.cells
        revert z0 z1 z2
        generalize (World.setCell _ (⟨w.heap.size, 2, none⟩ : Addr) (.slice cc C.length cC)) = W4
        intro z0 z1 z2
        simp [results, Try.results12, go_sem, z0, z1, z2]) rfl ⟨_, _, _, _, ⟨A, Bv, C⟩, XS, rfl, HD.out.1.up (Below.refl _ _).drew, hF.out, HD.out.2.up (Below.refl _ _).drew, by omega, HBf.out.drew⟩
    · have hbb : True := trivial
      obtain ⟨m0, m1, m2, _⟩ := HQ.out.cells
      have ho0 : Only p w6 w6.drew := (Only.refl p w6).drew
      have Cell := Lib.hid (fun w' (h : Only p w6 w') => (show w'.cell? ⟨q, 0, none⟩ = some vA ∧ w'.cell? ⟨q, 1, none⟩ = some vB ∧ w'.cell? ⟨q, 2, none⟩ = some (.slice cc C.length cC) from ⟨h.cell (a := ⟨q, 0, none⟩) hqp m0, h.cell (a := ⟨q, 1, none⟩) hqp m1, h.cell (a := ⟨q, 2, none⟩) hqp m2⟩))
      go_upto_region 6 with fail
      have tA := sto HOne.out.1
      have tB := sto HOne.out.2
      refine wp_region_T_drew (S := (fun w' => w'.cell? ⟨q, 0, none⟩ = some vA ∧ w'.cell? ⟨q, 1, none⟩ = some vB ∧ w'.cell? ⟨q, 2, none⟩ = some (.slice cc C.length cC))) 6 (by kernel_rfl) ?_ (fun hHeld => ?_)
      · exact Cell.out _ ho0
      refine wpAnyT_take (i := 0) (oi := { dst := some 25, op := Op.load 28 (Operand.tmp 5), type := 28, pos := "l05_lp.go:190", after := #[], guard := none }) (v := ?_) rfl (by kernel_rfl) (fun _ _ _ h => h) (Or.inl ⟨by rfl, ?_⟩) (by assumption) ?_
      rotate_left 1
      · intro w hSw; (try dsimp only at hSw); go_simp; try (with_reducible rfl)
      try simp only [Act.put, List.setIfInBounds_toArray, List.set_cons_zero, List.set_cons_succ]
      refine wpAnyT_take (i := 1) (oi := { dst := some 26, op := Op.move (Operand.tmp 4), type := 48, pos := "l05_lp.go:190", after := #[], guard := none }) (v := ?_) rfl (by kernel_rfl) (fun _ _ _ h => h) (Or.inl ⟨by rfl, ?_⟩) (by assumption) ?_
      rotate_left 1
      · intro w hSw; (try dsimp only at hSw); go_simp; try (with_reducible rfl)
      try simp only [Act.put, List.setIfInBounds_toArray, List.set_cons_zero, List.set_cons_succ]
      refine wpAnyT_take (i := 2) (oi := { dst := some 27, op := Op.fieldAddr 28 (Operand.tmp 5) 2, type := 0, pos := "l05_lp.go:190", after := #[], guard := none }) (v := ?_) rfl (by kernel_rfl) (fun _ _ _ h => h) (Or.inl ⟨by rfl, ?_⟩) (by assumption) ?_
      rotate_left 1
      · intro w hSw; (try dsimp only at hSw); go_simp; try (with_reducible rfl)
      try simp only [Act.put, List.setIfInBounds_toArray, List.set_cons_zero, List.set_cons_succ]
      refine wpAnyT_take (i := 3) (oi := { dst := some 28, op := Op.load 26 (Operand.tmp 27), type := 26, pos := "l05_lp.go:190", after := #[{ on := 2, ground := Ground.data }], guard := none }) (v := ?_) rfl (by kernel_rfl) (fun _ _ _ h => h) (Or.inl ⟨by rfl, ?_⟩) (by assumption) ?_
      rotate_left 1
      · intro w hSw; (try dsimp only at hSw); go_simp; try (with_reducible rfl)
      try simp only [Act.put, List.setIfInBounds_toArray, List.set_cons_zero, List.set_cons_succ]
      refine wpAnyT_take (i := 4) (oi := { dst := some 29, op := Op.call { callee := Callee.builtin Builtin.len, args := #[Operand.tmp 28], argTypes := #[26] }, type := 3, pos := "l05_lp.go:190", after := #[{ on := 3, ground := Ground.data }], guard := none }) (v := ?_) rfl (by kernel_rfl) (fun _ _ _ h => h) (Or.inl ⟨by rfl, ?_⟩) (by assumption) ?_
      rotate_left 1
      · intro w hSw; (try dsimp only at hSw); go_simp; try (with_reducible rfl)
      try simp only [Act.put, List.setIfInBounds_toArray, List.set_cons_zero, List.set_cons_succ]
      refine wpAnyT_ready (rs := [5]) (by kernel_rfl) (by simp) ?_
      refine (AllReadyT.cons (o := { dst := some 30, op := Op.call { callee := Callee.value (Operand.func 39), args := #[Operand.tmp 26, Operand.tmp 29], argTypes := #[48, 3] }, type := 26, pos := "l05_lp.go:190", after := #[{ on := 1, ground := Ground.data }, { on := 4, ground := Ground.data }], guard := none }) (rs := []) rfl (fun K hK => ?_) AllReadyT.nil)
      go_simp
      (refine (spec_l4DrawI w.heap.size p C.length _ rfl (by omega) a len cap _ hbp (show Cur w6.drew p a len cap from HU.out) (Hc.out.below HB.out.drew)).mono ?_; rintro e w7 ⟨v7, x7, rfl, hxl, hx7, hc7, ho7⟩; have ho8 := ho0.trans ho7)
      refine hK.out _ _ ?_ (fun hHeld => ?_)
      · exact Cell.out _ ho8
      clear hK K
      try simp only [Act.put, List.setIfInBounds_toArray, List.set_cons_zero, List.set_cons_succ]
      have hT7 : Tri w7 w.heap.size (.slice none 0 0) (.slice none 0 0) (.slice none 0 0) 28 := (ho8.block (by omega) (lt_of_at HT.out)).trans HT.out
      obtain ⟨_, _, _, y0, y1, y2⟩ := hT7.cells
      refine wpAnyT_ready (rs := [6]) (by kernel_rfl) (by simp) ?_
      refine (AllReadyT.last (o := { dst := none, op := Op.store 28 (Operand.tmp 2) (Operand.tmp 25), type := 0, pos := "l05_lp.go:190", after := #[{ on := 0, ground := Ground.data }, { on := 5, ground := Ground.chain }, { on := 0, ground := Ground.phase }, { on := 1, ground := Ground.textOnly Departure.lateStores }, { on := 2, ground := Ground.textOnly Departure.lateStores }, { on := 3, ground := Ground.textOnly Departure.lateStores }, { on := 4, ground := Ground.textOnly Departure.lateStoresUnsure }, { on := 5, ground := Ground.textOnly Departure.lateStoresUnsure }], guard := none }) (rs := []) rfl (by rfl) (fun K hK => ?_) AllReadyT.nil)
      go_simp
      refine hK.out _ _ ?_
      clear hK K
      refine wpAnyT_ready (rs := [7]) (by kernel_rfl) (by simp) ?_
      refine (AllReadyT.last (o := { dst := some 3, op := Op.assign (Operand.tmp 30), type := 26, pos := "l05_lp.go:190", after := #[{ on := 5, ground := Ground.data }, { on := 6, ground := Ground.chain }, { on := 0, ground := Ground.phase }, { on := 1, ground := Ground.phase }, { on := 2, ground := Ground.phase }, { on := 3, ground := Ground.phase }, { on := 4, ground := Ground.phase }, { on := 5, ground := Ground.phase }, { on := 6, ground := Ground.phase }], guard := none }) (rs := []) rfl (by rfl) (fun K hK => ?_) AllReadyT.nil)
      go_simp
      refine hK.out _ _ ?_
      clear hK K
      try simp only [Act.put, List.setIfInBounds_toArray, List.set_cons_zero, List.set_cons_succ]
      refine wpAnyT_done (by kernel_rfl) ?_ _
      have HTW := hT7
      have HABW := HAB.out.only ho8 (by omega)
      have HCCW := OwnRats.only HCC.out ho8 (by omega)
      have HXW := hx7
      have HBW := HB.out.trans (ho8.below hbp)
      clear hc7 ho7
      have HTf := Lib.hid (((HTW.set0 vA).set1 vB).set2 (.slice cc C.length cC))
      have hd := lp_done HABW HCCW HXW HTW vA vB (.slice cc C.length cC)
      have HD := Lib.hid hd
      have HBf := Lib.hid (((HBW.setCell (p := ⟨w.heap.size, 0, none⟩) (Nat.le_refl _) vA).setCell (p := ⟨w.heap.size, 1, none⟩) (Nat.le_refl _) vB).setCell (p := ⟨w.heap.size, 2, none⟩) (Nat.le_refl _) (.slice cc C.length cC))
      clear hd
      go_wp2_with fail
      refine bodyPost_ret (v := .tuple #[.agg #[vA, vB, .slice cc C.length cC], v7]) (by
        obtain ⟨z0, z1, z2, _⟩ := HTf.out.cells
        revert z0 z1 z2
        generalize (World.setCell _ (⟨w.heap.size, 2, none⟩ : Addr) (.slice cc C.length cC)) = W4
        intro z0 z1 z2
        simp [results, Try.results12, go_sem, z0, z1, z2]) rfl ⟨_, _, _, _, ⟨A, Bv, C⟩, x7, rfl, HD.out.1, hF.out, HD.out.2, by omega, HBf.out⟩
  · have hd : decide ((XS.length : Int) > 0) = false := by rw [decide_eq_false_iff_not]; omega
    clear m0' m1' m2'
    obtain ⟨m0, m1, m2, _⟩ := HQ.out.cells
    have ho0 : Only p (w4.alloc O) (w4.alloc O).drew := (Only.refl p (w4.alloc O)).drew
    have Cell := Lib.hid (fun w' (h : Only p (w4.alloc O) w') => (show w'.cell? ⟨q, 0, none⟩ = some vA ∧ w'.cell? ⟨q, 1, none⟩ = some vB ∧ w'.cell? ⟨q, 2, none⟩ = some (.slice cc C.length cC) from ⟨h.cell (a := ⟨q, 0, none⟩) hqp m0, h.cell (a := ⟨q, 1, none⟩) hqp m1, h.cell (a := ⟨q, 2, none⟩) hqp m2⟩))
    go_upto_region 6 with fail
    try rw [Hr'.out, ← HO.out]
    have tA := sto HOne.out.1
    have tB := sto HOne.out.2
    refine wp_region_T_drew (S := (fun w' => w'.cell? ⟨q, 0, none⟩ = some vA ∧ w'.cell? ⟨q, 1, none⟩ = some vB ∧ w'.cell? ⟨q, 2, none⟩ = some (.slice cc C.length cC))) 6 (by kernel_rfl) ?_ (fun hHeld => ?_)
    · exact Cell.out _ ho0
    refine wpAnyT_take (i := 0) (oi := { dst := some 25, op := Op.load 28 (Operand.tmp 5), type := 28, pos := "l05_lp.go:190", after := #[], guard := none }) (v := ?_) rfl (by kernel_rfl) (fun _ _ _ h => h) (Or.inl ⟨by rfl, ?_⟩) (by assumption) ?_
    rotate_left 1
    · intro w hSw; (try dsimp only at hSw); go_simp; try (with_reducible rfl)
    try simp only [Act.put, List.setIfInBounds_toArray, List.set_cons_zero, List.set_cons_succ]
    refine wpAnyT_take (i := 1) (oi := { dst := some 26, op := Op.move (Operand.tmp 4), type := 48, pos := "l05_lp.go:190", after := #[], guard := none }) (v := ?_) rfl (by kernel_rfl) (fun _ _ _ h => h) (Or.inl ⟨by rfl, ?_⟩) (by assumption) ?_
    rotate_left 1
    · intro w hSw; (try dsimp only at hSw); go_simp; try (with_reducible rfl)
    try simp only [Act.put, List.setIfInBounds_toArray, List.set_cons_zero, List.set_cons_succ]
    refine wpAnyT_take (i := 2) (oi := { dst := some 27, op := Op.fieldAddr 28 (Operand.tmp 5) 2, type := 0, pos := "l05_lp.go:190", after := #[], guard := none }) (v := ?_) rfl (by kernel_rfl) (fun _ _ _ h => h) (Or.inl ⟨by rfl, ?_⟩) (by assumption) ?_
    rotate_left 1
    · intro w hSw; (try dsimp only at hSw); go_simp; try (with_reducible rfl)
    try simp only [Act.put, List.setIfInBounds_toArray, List.set_cons_zero, List.set_cons_succ]
    refine wpAnyT_take (i := 3) (oi := { dst := some 28, op := Op.load 26 (Operand.tmp 27), type := 26, pos := "l05_lp.go:190", after := #[{ on := 2, ground := Ground.data }], guard := none }) (v := ?_) rfl (by kernel_rfl) (fun _ _ _ h => h) (Or.inl ⟨by rfl, ?_⟩) (by assumption) ?_
    rotate_left 1
    · intro w hSw; (try dsimp only at hSw); go_simp; try (with_reducible rfl)
    try simp only [Act.put, List.setIfInBounds_toArray, List.set_cons_zero, List.set_cons_succ]
    refine wpAnyT_take (i := 4) (oi := { dst := some 29, op := Op.call { callee := Callee.builtin Builtin.len, args := #[Operand.tmp 28], argTypes := #[26] }, type := 3, pos := "l05_lp.go:190", after := #[{ on := 3, ground := Ground.data }], guard := none }) (v := ?_) rfl (by kernel_rfl) (fun _ _ _ h => h) (Or.inl ⟨by rfl, ?_⟩) (by assumption) ?_
    rotate_left 1
    · intro w hSw; (try dsimp only at hSw); go_simp; try (with_reducible rfl)
    try simp only [Act.put, List.setIfInBounds_toArray, List.set_cons_zero, List.set_cons_succ]
    refine wpAnyT_ready (rs := [5]) (by kernel_rfl) (by simp) ?_
    refine (AllReadyT.cons (o := { dst := some 30, op := Op.call { callee := Callee.value (Operand.func 39), args := #[Operand.tmp 26, Operand.tmp 29], argTypes := #[48, 3] }, type := 26, pos := "l05_lp.go:190", after := #[{ on := 1, ground := Ground.data }, { on := 4, ground := Ground.data }], guard := none }) (rs := []) rfl (fun K hK => ?_) AllReadyT.nil)
    go_simp
    (refine (spec_l4DrawI w.heap.size p C.length _ rfl (by omega) a len cap _ hbp (show Cur (w4.alloc O).drew p a len cap from HU.out) (Hc.out.below HB.out.drew)).mono ?_; rintro e w7 ⟨v7, x7, rfl, hxl, hx7, hc7, ho7⟩; have ho8 := ho0.trans ho7)
    refine hK.out _ _ ?_ (fun hHeld => ?_)
    · exact Cell.out _ ho8
    clear hK K
    try simp only [Act.put, List.setIfInBounds_toArray, List.set_cons_zero, List.set_cons_succ]
    have hT7 : Tri w7 w.heap.size (.slice none 0 0) (.slice none 0 0) (.slice none 0 0) 28 := (ho8.block (by omega) (lt_of_at HT.out)).trans HT.out
    obtain ⟨_, _, _, y0, y1, y2⟩ := hT7.cells
    refine wpAnyT_ready (rs := [6]) (by kernel_rfl) (by simp) ?_
    refine (AllReadyT.last (o := { dst := none, op := Op.store 28 (Operand.tmp 2) (Operand.tmp 25), type := 0, pos := "l05_lp.go:190", after := #[{ on := 0, ground := Ground.data }, { on := 5, ground := Ground.chain }, { on := 0, ground := Ground.phase }, { on := 1, ground := Ground.textOnly Departure.lateStores }, { on := 2, ground := Ground.textOnly Departure.lateStores }, { on := 3, ground := Ground.textOnly Departure.lateStores }, { on := 4, ground := Ground.textOnly Departure.lateStoresUnsure }, { on := 5, ground := Ground.textOnly Departure.lateStoresUnsure }], guard := none }) (rs := []) rfl (by rfl) (fun K hK => ?_) AllReadyT.nil)
    go_simp
    refine hK.out _ _ ?_
    clear hK K
    refine wpAnyT_ready (rs := [7]) (by kernel_rfl) (by simp) ?_
    refine (AllReadyT.last (o := { dst := some 3, op := Op.assign (Operand.tmp 30), type := 26, pos := "l05_lp.go:190", after := #[{ on := 5, ground := Ground.data }, { on := 6, ground := Ground.chain }, { on := 0, ground := Ground.phase }, { on := 1, ground := Ground.phase }, { on := 2, ground := Ground.phase }, { on := 3, ground := Ground.phase }, { on := 4, ground := Ground.phase }, { on := 5, ground := Ground.phase }, { on := 6, ground := Ground.phase }], guard := none }) (rs := []) rfl (by rfl) (fun K hK => ?_) AllReadyT.nil)
    go_simp
    refine hK.out _ _ ?_
    clear hK K
    try simp only [Act.put, List.setIfInBounds_toArray, List.set_cons_zero, List.set_cons_succ]
    refine wpAnyT_done (by kernel_rfl) ?_ _
    have HTW := hT7
    have HABW := HAB.out.only ho8 (by omega)
    have HCCW := OwnRats.only HCC.out ho8 (by omega)
    have HXW := hx7
    have HBW := HB.out.trans (ho8.below hbp)
    clear hc7 ho7
    have HTf := Lib.hid (((HTW.set0 vA).set1 vB).set2 (.slice cc C.length cC))
    have hd := lp_done HABW HCCW HXW HTW vA vB (.slice cc C.length cC)
    have HD := Lib.hid hd
    have HBf := Lib.hid (((HBW.setCell (p := ⟨w.heap.size, 0, none⟩) (Nat.le_refl _) vA).setCell (p := ⟨w.heap.size, 1, none⟩) (Nat.le_refl _) vB).setCell (p := ⟨w.heap.size, 2, none⟩) (Nat.le_refl _) (.slice cc C.length cC))
    clear hd
    go_wp2_with fail
    refine bodyPost_ret (v := .tuple #[.agg #[vA, vB, .slice cc C.length cC], v7]) (by
      obtain ⟨z0, z1, z2, _⟩ := HTf.out.cells
      revert z0 z1 z2
      generalize (World.setCell _ (⟨w.heap.size, 2, none⟩ : Addr) (.slice cc C.length cC)) = W4
      intro z0 z1 z2
      simp [results, Try.results12, go_sem, z0, z1, z2]) rfl ⟨_, _, _, _, ⟨A, Bv, C⟩, x7, rfl, HD.out.1, hF.out, HD.out.2, by omega, HBf.out⟩
end Go.Proofs.Ytgnianjomjjfgaa
