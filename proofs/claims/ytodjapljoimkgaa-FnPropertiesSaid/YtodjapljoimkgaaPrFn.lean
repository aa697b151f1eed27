/- FnProperties: the walk (prFn.py). -/
import Derived.Test.YtodjapljoimkgaaPrT
import Derived.Test.YtodjapljoimkgaaPrB
import Derived.Test.YtodjapljoimkgaaBig
namespace Go.Proofs.Ytodjapljoimkgaa
open Go.RowKit
open Gm (G)
theorem below_box {w w1 : World} (k : Below w.heap.size w w1) (o : Obj) : Below w.heap.size w (w1.alloc o) := k.alloc k.size o
set_option maxRecDepth 100000 in
set_option maxHeartbeats 16000000 in
theorem fnProperties.walk0 (a : Option Addr) (len cap : Nat) (w : World) (hcode : CodeAt w.heap.size w a len) :
    Calls Try.prog 3 #[.slice a len cap] w fun e w' => e = .returned (.bool true) ∧ Below w.heap.size w w' := by
  have Hc := Lib.hid hcode
  clear hcode
  by_cases hbig : 1048576 < len
  · go_enter Try.func3, Try.ntmps3
    go_wp2_with fail
    refine (big_yes a len cap hbig w).mono ?_
    rintro e w1 ⟨rfl, rfl⟩
    go_wp2_with fail
    go_ret
    exact ⟨rfl, Below.refl _ _⟩
  · go_enter Try.func3, Try.ntmps3
    go_wp2_with fail
    refine (big_no a len cap (by omega) w).mono ?_
    rintro e wz ⟨rfl, rfl⟩
    go_wp2_with fail
    refine (spec_DrawConvexFault a len cap w Hc.out).mono ?_
    rintro e w1 ⟨g, v, rfl, hg, hf, k⟩
    have hG := GmC.of_owns (g := g) hg
    have t1 := sto hG.one.2
    obtain ⟨x, hx⟩ : ∃ x : Value, x = .int .i64 g.n := ⟨_, rfl⟩
    have t0 : x.oneCell' = true := by rw [hx]; rfl
    replace t0 := sto t0
    rw [← hx] at hG ⊢
    obtain ⟨W, hW⟩ : ∃ W, W = w1.alloc (.cells #[x, v] 26) := ⟨_, rfl⟩
    obtain ⟨q, hq⟩ : ∃ q, q = w1.heap.size := ⟨_, rfl⟩
    have hcell := CellsAt.new w1 #[x, v] 26
    have hGG := hG.up ((Below.refl _ _).alloc (Nat.le_refl _) (.cells #[x, v] 26))
    have hBl := below_box k (.cells #[x, v] 26)
    rw [← hW] at hcell hGG hBl
    rw [← hq] at hcell
    have GG := Lib.hid hGG
    have HB := Lib.hid hBl
    have BX := Lib.hid hcell
    have HF := Lib.hid hf
    have HW := Lib.hid hW
    have Hq := Lib.hid hq
    have Cell := Lib.hid (fun w' (hb : Below W.heap.size W w') => (show w'.cell? ⟨q, 0, none⟩ = some x ∧ w'.cell? ⟨q, 1, none⟩ = some v ∧ Below W.heap.size W w' from ⟨(two (BX.out.below hb)).1, (two (BX.out.below hb)).2, hb⟩))
    have hle : w.heap.size ≤ W.heap.size := HB.out.size
    clear hg hf k hG hx hcell hGG hBl hW hq
    obtain ⟨A, B, bad, hC⟩ : ∃ A B bad, Pr.fault Pr.okC g = (A, B, bad) := ⟨_, _, _, rfl⟩
    obtain ⟨E, F, fau, hM⟩ : ∃ A B bad, Pr.fault Pr.okM g = (A, B, bad) := ⟨_, _, _, rfl⟩
    obtain ⟨J, K, sup, hS⟩ : ∃ A B bad, Pr.fault Pr.okS g = (A, B, bad) := ⟨_, _, _, rfl⟩
    obtain ⟨vv, hv⟩ : ∃ vv, Gm.vld g = vv := ⟨_, rfl⟩
    have HCC := Lib.hid hC
    have HMM := Lib.hid hM
    have HVV := Lib.hid hv
    have IC := Lib.hid (fun W' (hb : Below W.heap.size W W') => impl_ConvexFault hC (GG.out.up hb) HF.out)
    have SC := Lib.hid (fun W' (hb : Below W.heap.size W W') => spec_ConvexFault hC (GG.out.up hb) HF.out)
    have IM := Lib.hid (fun W' (hb : Below W.heap.size W W') => impl_MonotoneFault hM (GG.out.up hb) HF.out)
    have SM := Lib.hid (fun W' (hb : Below W.heap.size W W') => spec_MonotoneFault hM (GG.out.up hb) HF.out)
    have IS := Lib.hid (fun W' (hb : Below W.heap.size W W') => impl_SuperadditiveFault hS (GG.out.up hb) HF.out)
    have SS := Lib.hid (fun W' (hb : Below W.heap.size W W') => spec_SuperadditiveFault hS (GG.out.up hb) HF.out)
    have VG := Lib.hid (fun W' (hb : Below W.heap.size W W') => spec_IsValidGame vv hv (GG.out.up hb) HF.out)
    have TC := Lib.hid (fun W' (hb : Below W.heap.size W W') => impl_IsConvex (vv && !bad) (Pr.has_of hC hv) (GG.out.up hb) HF.out)
    have TM := Lib.hid (fun W' (hb : Below W.heap.size W W') => impl_IsMonotone (vv && !fau) (Pr.has_of hM hv) (GG.out.up hb) HF.out)
    have TS := Lib.hid (fun W' (hb : Below W.heap.size W W') => impl_IsSuperadditive (vv && !sup) (Pr.has_of hS hv) (GG.out.up hb) HF.out)
    have Vl := Lib.hid (fun (s : Nat) (hs : s < g.v.length) (W' : World) (hb : Below W.heap.size W W') => (show Calls Try.prog 18 #[.agg #[x, v], .int .i64 s] W' fun e w' => e = .returned (.int .i64 (g.v.getD s 0)) ∧ Below W'.heap.size W' w' from Gm.val_in hs ▸ impl_ValueOf (s : Int) (GG.out.up hb) HF.out))
    have hno : vv = false → bad = false ∧ fau = false ∧ sup = false := by
      intro e; rw [e] at hv; rw [Pr.fault_no hv] at hC hM hS; exact ⟨(congrArg (·.2.2) hC).symm, (congrArg (·.2.2) hM).symm, (congrArg (·.2.2) hS).symm⟩
    have hcs : vv = true → bad = false → sup = false := by
      intro e1 e2; have h1 := Pr.convex_super (g := g) (by rw [Pr.has_of hC hv, e1, e2]; rfl); rw [Pr.has_of hS hv, e1] at h1; simpa using h1
    have hsA : ∀ z : Int, (z != z) = false := fun z => by simp
    have hA1 := hsA A
    have hA2 := hsA B
    have hE1 := hsA E
    have hE2 := hsA F
    have hJ1 : (J == J) = true := by simp
    have hJ2 : (K == K) = true := by simp
    clear hC hM hS hv hsA
    go_wp2_with fail
    rw [← HW.out, ← Hq.out]
    clear HW Hq t0 t1
    have HBW : Hid (Below W.heap.size W W) := Below.refl _ _
    obtain ⟨m0, m1⟩ := two BX.out
    rcases vv with _ | _
    · obtain ⟨rfl, rfl, rfl⟩ := hno rfl
      clear hno hcs
      rw [show (false && !false) = false from rfl] at TC
      rw [show (false && !false) = false from rfl] at TM
      rw [show (false && !false) = false from rfl] at TS
      refine (IC.out _ HBW.out).mono ?_
      rintro e w11 ⟨rfl, k⟩
      replace HBW := Lib.hid (HBW.out.trans (k.mono HBW.out.size))
      obtain ⟨m0, m1, -⟩ := Cell.out _ HBW.out
      clear k
      go_wp2_with fail
      refine (SC.out _ HBW.out).mono ?_
      rintro e w12 ⟨rfl, k⟩
      replace HBW := Lib.hid (HBW.out.trans (k.mono HBW.out.size))
      obtain ⟨m0, m1, -⟩ := Cell.out _ HBW.out
      clear k
      go_wp2_with fail
      refine (TC.out _ HBW.out).mono ?_
      rintro e w13 ⟨rfl, k⟩
      replace HBW := Lib.hid (HBW.out.trans (k.mono HBW.out.size))
      obtain ⟨m0, m1, -⟩ := Cell.out _ HBW.out
      clear k
      go_upto_region 8 with fail
      have hb0 := HBW.out.drew
      refine wp_region_T_drew (S := (fun w' => w'.cell? ⟨q, 0, none⟩ = some x ∧ w'.cell? ⟨q, 1, none⟩ = some v ∧ Below W.heap.size W w')) 21 (by kernel_rfl) ?_ (fun hHeld => ?_)
      · exact Cell.out _ hb0
      refine wpAnyT_take (i := 0) (oi := { dst := some 60, op := Op.move (Operand.tmp 6), type := 4, pos := "laws.go:383", after := #[], guard := none }) (v := ?_) rfl (by kernel_rfl) (fun _ _ _ h => h) (Or.inl ⟨by rfl, ?_⟩) (by assumption) ?_
      rotate_left 1
      · intro w hSw; (try dsimp only at hSw); go_simp; try (with_reducible rfl)
      try simp only [Act.put, List.setIfInBounds_toArray, List.set_cons_zero, List.set_cons_succ]
      refine wpAnyT_take (i := 1) (oi := { dst := some 61, op := Op.move (Operand.tmp 60), type := 4, pos := "laws.go:383", after := #[{ on := 0, ground := Ground.data }], guard := none }) (v := ?_) rfl (by kernel_rfl) (fun _ _ _ h => h) (Or.inl ⟨by rfl, ?_⟩) (by assumption) ?_
      rotate_left 1
      · intro w hSw; (try dsimp only at hSw); go_simp; try (with_reducible rfl)
      try simp only [Act.put, List.setIfInBounds_toArray, List.set_cons_zero, List.set_cons_succ]
      refine wpAnyT_take (i := 2) (oi := { dst := some 62, op := Op.load 26 (Operand.tmp 3), type := 26, pos := "laws.go:383", after := #[{ on := 1, ground := Ground.guard }], guard := some (1, true) }) (v := undef) rfl (by kernel_rfl) (fun _ _ _ h => h) (Or.inr ⟨by rfl, rfl⟩) (by assumption) ?_
      try simp only [Act.put, List.setIfInBounds_toArray, List.set_cons_zero, List.set_cons_succ]
      refine wpAnyT_take (i := 3) (oi := { dst := some 63, op := Op.move (Operand.tmp 4), type := 3, pos := "laws.go:383", after := #[{ on := 1, ground := Ground.guard }], guard := some (1, true) }) (v := undef) rfl (by kernel_rfl) (fun _ _ _ h => h) (Or.inr ⟨by rfl, rfl⟩) (by assumption) ?_
      try simp only [Act.put, List.setIfInBounds_toArray, List.set_cons_zero, List.set_cons_succ]
      refine wpAnyT_take (i := 4) (oi := { dst := some 64, op := Op.call { callee := Callee.value (Operand.func 18), args := #[Operand.tmp 62, Operand.tmp 63], argTypes := #[26, 3] }, type := 3, pos := "laws.go:383", after := #[{ on := 2, ground := Ground.data }, { on := 3, ground := Ground.data }, { on := 1, ground := Ground.chain }, { on := 1, ground := Ground.guard }], guard := some (1, true) }) (v := undef) rfl (by kernel_rfl) (fun _ _ _ h => h) (Or.inr ⟨by rfl, rfl⟩) (by assumption) ?_
      try simp only [Act.put, List.setIfInBounds_toArray, List.set_cons_zero, List.set_cons_succ]
      refine wpAnyT_take (i := 5) (oi := { dst := some 65, op := Op.load 26 (Operand.tmp 3), type := 26, pos := "laws.go:383", after := #[{ on := 1, ground := Ground.guard }], guard := some (1, true) }) (v := undef) rfl (by kernel_rfl) (fun _ _ _ h => h) (Or.inr ⟨by rfl, rfl⟩) (by assumption) ?_
      try simp only [Act.put, List.setIfInBounds_toArray, List.set_cons_zero, List.set_cons_succ]
      refine wpAnyT_take (i := 6) (oi := { dst := some 66, op := Op.move (Operand.tmp 5), type := 3, pos := "laws.go:383", after := #[{ on := 1, ground := Ground.guard }], guard := some (1, true) }) (v := undef) rfl (by kernel_rfl) (fun _ _ _ h => h) (Or.inr ⟨by rfl, rfl⟩) (by assumption) ?_
      try simp only [Act.put, List.setIfInBounds_toArray, List.set_cons_zero, List.set_cons_succ]
      refine wpAnyT_take (i := 7) (oi := { dst := some 67, op := Op.call { callee := Callee.value (Operand.func 18), args := #[Operand.tmp 65, Operand.tmp 66], argTypes := #[26, 3] }, type := 3, pos := "laws.go:383", after := #[{ on := 5, ground := Ground.data }, { on := 6, ground := Ground.data }, { on := 4, ground := Ground.chain }, { on := 1, ground := Ground.guard }], guard := some (1, true) }) (v := undef) rfl (by kernel_rfl) (fun _ _ _ h => h) (Or.inr ⟨by rfl, rfl⟩) (by assumption) ?_
      try simp only [Act.put, List.setIfInBounds_toArray, List.set_cons_zero, List.set_cons_succ]
      refine wpAnyT_take (i := 8) (oi := { dst := some 68, op := Op.binOp BinOp.add 3 (Operand.tmp 64) (Operand.tmp 67) 3, type := 3, pos := "laws.go:383", after := #[{ on := 4, ground := Ground.data }, { on := 7, ground := Ground.data }, { on := 1, ground := Ground.guard }], guard := some (1, true) }) (v := undef) rfl (by kernel_rfl) (fun _ _ _ h => h) (Or.inr ⟨by rfl, rfl⟩) (by assumption) ?_
      try simp only [Act.put, List.setIfInBounds_toArray, List.set_cons_zero, List.set_cons_succ]
      refine wpAnyT_take (i := 9) (oi := { dst := some 69, op := Op.load 26 (Operand.tmp 3), type := 26, pos := "laws.go:383", after := #[{ on := 1, ground := Ground.guard }], guard := some (1, true) }) (v := undef) rfl (by kernel_rfl) (fun _ _ _ h => h) (Or.inr ⟨by rfl, rfl⟩) (by assumption) ?_
      try simp only [Act.put, List.setIfInBounds_toArray, List.set_cons_zero, List.set_cons_succ]
      refine wpAnyT_take (i := 10) (oi := { dst := some 70, op := Op.move (Operand.tmp 4), type := 3, pos := "laws.go:383", after := #[{ on := 1, ground := Ground.guard }], guard := some (1, true) }) (v := undef) rfl (by kernel_rfl) (fun _ _ _ h => h) (Or.inr ⟨by rfl, rfl⟩) (by assumption) ?_
      try simp only [Act.put, List.setIfInBounds_toArray, List.set_cons_zero, List.set_cons_succ]
      refine wpAnyT_take (i := 11) (oi := { dst := some 71, op := Op.move (Operand.tmp 5), type := 3, pos := "laws.go:383", after := #[{ on := 1, ground := Ground.guard }], guard := some (1, true) }) (v := undef) rfl (by kernel_rfl) (fun _ _ _ h => h) (Or.inr ⟨by rfl, rfl⟩) (by assumption) ?_
      try simp only [Act.put, List.setIfInBounds_toArray, List.set_cons_zero, List.set_cons_succ]
      refine wpAnyT_take (i := 12) (oi := { dst := some 72, op := Op.call { callee := Callee.value (Operand.func 19), args := #[Operand.tmp 70, Operand.tmp 71], argTypes := #[3, 3] }, type := 3, pos := "laws.go:383", after := #[{ on := 10, ground := Ground.data }, { on := 11, ground := Ground.data }, { on := 7, ground := Ground.chain }, { on := 1, ground := Ground.guard }], guard := some (1, true) }) (v := undef) rfl (by kernel_rfl) (fun _ _ _ h => h) (Or.inr ⟨by rfl, rfl⟩) (by assumption) ?_
      try simp only [Act.put, List.setIfInBounds_toArray, List.set_cons_zero, List.set_cons_succ]
      refine wpAnyT_take (i := 13) (oi := { dst := some 73, op := Op.call { callee := Callee.value (Operand.func 18), args := #[Operand.tmp 69, Operand.tmp 72], argTypes := #[26, 3] }, type := 3, pos := "laws.go:383", after := #[{ on := 9, ground := Ground.data }, { on := 12, ground := Ground.data }, { on := 12, ground := Ground.chain }, { on := 1, ground := Ground.guard }], guard := some (1, true) }) (v := undef) rfl (by kernel_rfl) (fun _ _ _ h => h) (Or.inr ⟨by rfl, rfl⟩) (by assumption) ?_
      try simp only [Act.put, List.setIfInBounds_toArray, List.set_cons_zero, List.set_cons_succ]
      refine wpAnyT_take (i := 14) (oi := { dst := some 74, op := Op.load 26 (Operand.tmp 3), type := 26, pos := "laws.go:383", after := #[{ on := 1, ground := Ground.guard }], guard := some (1, true) }) (v := undef) rfl (by kernel_rfl) (fun _ _ _ h => h) (Or.inr ⟨by rfl, rfl⟩) (by assumption) ?_
      try simp only [Act.put, List.setIfInBounds_toArray, List.set_cons_zero, List.set_cons_succ]
      refine wpAnyT_take (i := 15) (oi := { dst := some 75, op := Op.move (Operand.tmp 4), type := 3, pos := "laws.go:383", after := #[{ on := 1, ground := Ground.guard }], guard := some (1, true) }) (v := undef) rfl (by kernel_rfl) (fun _ _ _ h => h) (Or.inr ⟨by rfl, rfl⟩) (by assumption) ?_
      try simp only [Act.put, List.setIfInBounds_toArray, List.set_cons_zero, List.set_cons_succ]
      refine wpAnyT_take (i := 16) (oi := { dst := some 76, op := Op.move (Operand.tmp 5), type := 3, pos := "laws.go:383", after := #[{ on := 1, ground := Ground.guard }], guard := some (1, true) }) (v := undef) rfl (by kernel_rfl) (fun _ _ _ h => h) (Or.inr ⟨by rfl, rfl⟩) (by assumption) ?_
      try simp only [Act.put, List.setIfInBounds_toArray, List.set_cons_zero, List.set_cons_succ]
      refine wpAnyT_take (i := 17) (oi := { dst := some 77, op := Op.call { callee := Callee.value (Operand.func 20), args := #[Operand.tmp 75, Operand.tmp 76], argTypes := #[3, 3] }, type := 3, pos := "laws.go:383", after := #[{ on := 15, ground := Ground.data }, { on := 16, ground := Ground.data }, { on := 13, ground := Ground.chain }, { on := 1, ground := Ground.guard }], guard := some (1, true) }) (v := undef) rfl (by kernel_rfl) (fun _ _ _ h => h) (Or.inr ⟨by rfl, rfl⟩) (by assumption) ?_
      try simp only [Act.put, List.setIfInBounds_toArray, List.set_cons_zero, List.set_cons_succ]
      refine wpAnyT_take (i := 18) (oi := { dst := some 78, op := Op.call { callee := Callee.value (Operand.func 18), args := #[Operand.tmp 74, Operand.tmp 77], argTypes := #[26, 3] }, type := 3, pos := "laws.go:383", after := #[{ on := 14, ground := Ground.data }, { on := 17, ground := Ground.data }, { on := 17, ground := Ground.chain }, { on := 1, ground := Ground.guard }], guard := some (1, true) }) (v := undef) rfl (by kernel_rfl) (fun _ _ _ h => h) (Or.inr ⟨by rfl, rfl⟩) (by assumption) ?_
      try simp only [Act.put, List.setIfInBounds_toArray, List.set_cons_zero, List.set_cons_succ]
      refine wpAnyT_take (i := 19) (oi := { dst := some 79, op := Op.binOp BinOp.add 3 (Operand.tmp 73) (Operand.tmp 78) 3, type := 3, pos := "laws.go:383", after := #[{ on := 13, ground := Ground.data }, { on := 18, ground := Ground.data }, { on := 1, ground := Ground.guard }], guard := some (1, true) }) (v := undef) rfl (by kernel_rfl) (fun _ _ _ h => h) (Or.inr ⟨by rfl, rfl⟩) (by assumption) ?_
      try simp only [Act.put, List.setIfInBounds_toArray, List.set_cons_zero, List.set_cons_succ]
      refine wpAnyT_take (i := 20) (oi := { dst := some 80, op := Op.binOp BinOp.leq 3 (Operand.tmp 68) (Operand.tmp 79) 3, type := 4, pos := "laws.go:383", after := #[{ on := 8, ground := Ground.data }, { on := 19, ground := Ground.data }, { on := 1, ground := Ground.guard }], guard := some (1, true) }) (v := undef) rfl (by kernel_rfl) (fun _ _ _ h => h) (Or.inr ⟨by rfl, rfl⟩) (by assumption) ?_
      try simp only [Act.put, List.setIfInBounds_toArray, List.set_cons_zero, List.set_cons_succ]
      refine wpAnyT_ready (rs := [21]) (by kernel_rfl) (by simp) ?_
      refine (AllReadyT.last (o := { dst := some 81, op := Op.pick (Operand.tmp 61) (Operand.tmp 80) (Operand.const (Value.bool false)), type := 4, pos := "laws.go:383", after := #[{ on := 1, ground := Ground.data }, { on := 20, ground := Ground.data }], guard := none }) (rs := []) rfl (by rfl) (fun K hK => ?_) AllReadyT.nil)
      go_simp
      refine hK.out _ _ ?_
      clear hK K
      try simp only [Act.put, List.setIfInBounds_toArray, List.set_cons_zero, List.set_cons_succ]
      refine wpAnyT_done (by kernel_rfl) ?_ _
      replace HBW := Lib.hid hb0
      obtain ⟨m0, m1, -⟩ := Cell.out _ HBW.out
      go_wp2_with fail
      refine (IM.out _ HBW.out).mono ?_
      rintro e w14 ⟨rfl, k⟩
      replace HBW := Lib.hid (HBW.out.trans (k.mono HBW.out.size))
      obtain ⟨m0, m1, -⟩ := Cell.out _ HBW.out
      clear k
      go_wp2_with fail
      refine (SM.out _ HBW.out).mono ?_
      rintro e w15 ⟨rfl, k⟩
      replace HBW := Lib.hid (HBW.out.trans (k.mono HBW.out.size))
      obtain ⟨m0, m1, -⟩ := Cell.out _ HBW.out
      clear k
      go_wp2_with fail
      refine (IS.out _ HBW.out).mono ?_
      rintro e w16 ⟨rfl, k⟩
      replace HBW := Lib.hid (HBW.out.trans (k.mono HBW.out.size))
      obtain ⟨m0, m1, -⟩ := Cell.out _ HBW.out
      clear k
      go_wp2_with fail
      refine (SS.out _ HBW.out).mono ?_
      rintro e w17 ⟨rfl, k⟩
      replace HBW := Lib.hid (HBW.out.trans (k.mono HBW.out.size))
      obtain ⟨m0, m1, -⟩ := Cell.out _ HBW.out
      clear k
      go_upto_region 16 with fail
      have hb0 := HBW.out.drew
      refine wp_region_T_drew (S := (fun w' => w'.cell? ⟨q, 0, none⟩ = some x ∧ w'.cell? ⟨q, 1, none⟩ = some v ∧ Below W.heap.size W w')) 35 (by kernel_rfl) ?_ (fun hHeld => ?_)
      · exact Cell.out _ hb0
      refine wpAnyT_take (i := 0) (oi := { dst := some 128, op := Op.move (Operand.tmp 16), type := 3, pos := "laws.go:393", after := #[], guard := none }) (v := ?_) rfl (by kernel_rfl) (fun _ _ _ h => h) (Or.inl ⟨by rfl, ?_⟩) (by assumption) ?_
      rotate_left 1
      · intro w hSw; (try dsimp only at hSw); go_simp; try (with_reducible rfl)
      try simp only [Act.put, List.setIfInBounds_toArray, List.set_cons_zero, List.set_cons_succ]
      refine wpAnyT_take (i := 1) (oi := { dst := some 129, op := Op.move (Operand.tmp 19), type := 3, pos := "laws.go:393", after := #[], guard := none }) (v := ?_) rfl (by kernel_rfl) (fun _ _ _ h => h) (Or.inl ⟨by rfl, ?_⟩) (by assumption) ?_
      rotate_left 1
      · intro w hSw; (try dsimp only at hSw); go_simp; try (with_reducible rfl)
      try simp only [Act.put, List.setIfInBounds_toArray, List.set_cons_zero, List.set_cons_succ]
      refine wpAnyT_take (i := 2) (oi := { dst := some 130, op := Op.binOp BinOp.eql 3 (Operand.tmp 128) (Operand.tmp 129) 3, type := 4, pos := "laws.go:393", after := #[{ on := 0, ground := Ground.data }, { on := 1, ground := Ground.data }], guard := none }) (v := ?_) rfl (by kernel_rfl) (fun _ _ _ h => h) (Or.inl ⟨by rfl, ?_⟩) (by assumption) ?_
      rotate_left 1
      · intro w hSw; (try dsimp only at hSw); go_simp; try (with_reducible rfl)
      try simp only [Act.put, List.setIfInBounds_toArray, List.set_cons_zero, List.set_cons_succ]
      refine wpAnyT_take (i := 3) (oi := { dst := some 131, op := Op.move (Operand.tmp 130), type := 4, pos := "laws.go:393", after := #[{ on := 2, ground := Ground.data }], guard := none }) (v := ?_) rfl (by kernel_rfl) (fun _ _ _ h => h) (Or.inl ⟨by rfl, ?_⟩) (by assumption) ?_
      rotate_left 1
      · intro w hSw; (try dsimp only at hSw); go_simp; try (with_reducible rfl)
      try simp only [Act.put, List.setIfInBounds_toArray, List.set_cons_zero, List.set_cons_succ]
      refine wpAnyT_take (i := 4) (oi := { dst := some 132, op := Op.move (Operand.tmp 17), type := 3, pos := "laws.go:393", after := #[{ on := 3, ground := Ground.guard }], guard := some (3, true) }) (v := ?_) rfl (by kernel_rfl) (fun _ _ _ h => h) (Or.inl ⟨by rfl, ?_⟩) (by assumption) ?_
      rotate_left 1
      · intro w hSw; (try dsimp only at hSw); go_simp; try (with_reducible rfl)
      try simp only [Act.put, List.setIfInBounds_toArray, List.set_cons_zero, List.set_cons_succ]
      refine wpAnyT_take (i := 5) (oi := { dst := some 133, op := Op.move (Operand.tmp 20), type := 3, pos := "laws.go:393", after := #[{ on := 3, ground := Ground.guard }], guard := some (3, true) }) (v := ?_) rfl (by kernel_rfl) (fun _ _ _ h => h) (Or.inl ⟨by rfl, ?_⟩) (by assumption) ?_
      rotate_left 1
      · intro w hSw; (try dsimp only at hSw); go_simp; try (with_reducible rfl)
      try simp only [Act.put, List.setIfInBounds_toArray, List.set_cons_zero, List.set_cons_succ]
      refine wpAnyT_take (i := 6) (oi := { dst := some 134, op := Op.binOp BinOp.eql 3 (Operand.tmp 132) (Operand.tmp 133) 3, type := 4, pos := "laws.go:393", after := #[{ on := 4, ground := Ground.data }, { on := 5, ground := Ground.data }, { on := 3, ground := Ground.guard }], guard := some (3, true) }) (v := ?_) rfl (by kernel_rfl) (fun _ _ _ h => h) (Or.inl ⟨by rfl, ?_⟩) (by assumption) ?_
      rotate_left 1
      · intro w hSw; (try dsimp only at hSw); go_simp; try (with_reducible rfl)
      try simp only [Act.put, List.setIfInBounds_toArray, List.set_cons_zero, List.set_cons_succ]
      refine wpAnyT_take (i := 7) (oi := { dst := some 135, op := Op.pick (Operand.tmp 131) (Operand.tmp 134) (Operand.const (Value.bool false)), type := 4, pos := "laws.go:393", after := #[{ on := 3, ground := Ground.data }, { on := 6, ground := Ground.data }], guard := none }) (v := ?_) rfl (by kernel_rfl) (fun _ _ _ h => h) (Or.inl ⟨by rfl, ?_⟩) (by assumption) ?_
      rotate_left 1
      · intro w hSw; (try dsimp only at hSw); go_simp; try (with_reducible rfl)
      try simp only [Act.put, List.setIfInBounds_toArray, List.set_cons_zero, List.set_cons_succ]
      refine wpAnyT_take (i := 8) (oi := { dst := some 136, op := Op.move (Operand.tmp 135), type := 4, pos := "laws.go:393", after := #[{ on := 7, ground := Ground.data }, { on := 3, ground := Ground.chain }], guard := none }) (v := ?_) rfl (by kernel_rfl) (fun _ _ _ h => h) (Or.inl ⟨by rfl, ?_⟩) (by assumption) ?_
      rotate_left 1
      · intro w hSw; (try dsimp only at hSw); go_simp; try (with_reducible rfl)
      try simp only [Act.put, List.setIfInBounds_toArray, List.set_cons_zero, List.set_cons_succ]
      refine wpAnyT_take (i := 9) (oi := { dst := some 137, op := Op.move (Operand.tmp 18), type := 4, pos := "laws.go:393", after := #[{ on := 8, ground := Ground.guard }], guard := some (8, true) }) (v := ?_) rfl (by kernel_rfl) (fun _ _ _ h => h) (Or.inl ⟨by rfl, ?_⟩) (by assumption) ?_
      rotate_left 1
      · intro w hSw; (try dsimp only at hSw); go_simp; try (with_reducible rfl)
      try simp only [Act.put, List.setIfInBounds_toArray, List.set_cons_zero, List.set_cons_succ]
      refine wpAnyT_take (i := 10) (oi := { dst := some 138, op := Op.move (Operand.tmp 21), type := 4, pos := "laws.go:393", after := #[{ on := 8, ground := Ground.guard }], guard := some (8, true) }) (v := ?_) rfl (by kernel_rfl) (fun _ _ _ h => h) (Or.inl ⟨by rfl, ?_⟩) (by assumption) ?_
      rotate_left 1
      · intro w hSw; (try dsimp only at hSw); go_simp; try (with_reducible rfl)
      try simp only [Act.put, List.setIfInBounds_toArray, List.set_cons_zero, List.set_cons_succ]
      refine wpAnyT_take (i := 11) (oi := { dst := some 139, op := Op.binOp BinOp.eql 4 (Operand.tmp 137) (Operand.tmp 138) 4, type := 4, pos := "laws.go:393", after := #[{ on := 9, ground := Ground.data }, { on := 10, ground := Ground.data }, { on := 8, ground := Ground.guard }], guard := some (8, true) }) (v := ?_) rfl (by kernel_rfl) (fun _ _ _ h => h) (Or.inl ⟨by rfl, ?_⟩) (by assumption) ?_
      rotate_left 1
      · intro w hSw; (try dsimp only at hSw); go_simp; try (with_reducible rfl)
      try simp only [Act.put, List.setIfInBounds_toArray, List.set_cons_zero, List.set_cons_succ]
      refine wpAnyT_take (i := 12) (oi := { dst := some 140, op := Op.pick (Operand.tmp 136) (Operand.tmp 139) (Operand.const (Value.bool false)), type := 4, pos := "laws.go:393", after := #[{ on := 8, ground := Ground.data }, { on := 11, ground := Ground.data }], guard := none }) (v := ?_) rfl (by kernel_rfl) (fun _ _ _ h => h) (Or.inl ⟨by rfl, ?_⟩) (by assumption) ?_
      rotate_left 1
      · intro w hSw; (try dsimp only at hSw); go_simp; try (with_reducible rfl)
      try simp only [Act.put, List.setIfInBounds_toArray, List.set_cons_zero, List.set_cons_succ]
      refine wpAnyT_take (i := 13) (oi := { dst := some 141, op := Op.move (Operand.tmp 140), type := 4, pos := "laws.go:393", after := #[{ on := 12, ground := Ground.data }, { on := 8, ground := Ground.chain }], guard := none }) (v := ?_) rfl (by kernel_rfl) (fun _ _ _ h => h) (Or.inl ⟨by rfl, ?_⟩) (by assumption) ?_
      rotate_left 1
      · intro w hSw; (try dsimp only at hSw); go_simp; try (with_reducible rfl)
      try simp only [Act.put, List.setIfInBounds_toArray, List.set_cons_zero, List.set_cons_succ]
      refine wpAnyT_take (i := 14) (oi := { dst := some 142, op := Op.load 26 (Operand.tmp 3), type := 26, pos := "laws.go:393", after := #[{ on := 13, ground := Ground.guard }], guard := some (13, true) }) (v := ?_) rfl (by kernel_rfl) (fun _ _ _ h => h) (Or.inl ⟨by rfl, ?_⟩) (by assumption) ?_
      rotate_left 1
      · intro w hSw; (try dsimp only at hSw); go_simp; try (with_reducible rfl)
      try simp only [Act.put, List.setIfInBounds_toArray, List.set_cons_zero, List.set_cons_succ]
      refine wpAnyT_take (i := 16) (oi := { dst := some 144, op := Op.load 26 (Operand.tmp 3), type := 26, pos := "laws.go:393", after := #[{ on := 13, ground := Ground.guard }], guard := some (13, true) }) (v := ?_) rfl (by kernel_rfl) (fun _ _ _ h => h) (Or.inl ⟨by rfl, ?_⟩) (by assumption) ?_
      rotate_left 1
      · intro w hSw; (try dsimp only at hSw); go_simp; try (with_reducible rfl)
      try simp only [Act.put, List.setIfInBounds_toArray, List.set_cons_zero, List.set_cons_succ]
      refine wpAnyT_ready (rs := [15]) (by kernel_rfl) (by simp) ?_
      refine (AllReadyT.cons (o := { dst := some 143, op := Op.call { callee := Callee.value (Operand.func 26), args := #[Operand.tmp 142], argTypes := #[26] }, type := 4, pos := "laws.go:393", after := #[{ on := 14, ground := Ground.data }, { on := 13, ground := Ground.chain }, { on := 13, ground := Ground.guard }], guard := some (13, true) }) (rs := []) rfl (fun K hK => ?_) AllReadyT.nil)
      go_simp
      (refine (TM.out _ hb0).mono ?_; rintro e wv1 ⟨rfl, k⟩; have hb1 := hb0.trans (k.mono hb0.size))
      refine hK.out _ _ ?_ (fun hHeld => ?_)
      · exact Cell.out _ hb1
      clear hK K
      try simp only [Act.put, List.setIfInBounds_toArray, List.set_cons_zero, List.set_cons_succ]
      refine wpAnyT_ready (rs := [17]) (by kernel_rfl) (by simp) ?_
      refine (AllReadyT.cons (o := { dst := some 145, op := Op.call { callee := Callee.value (Operand.func 27), args := #[Operand.tmp 144], argTypes := #[26] }, type := 4, pos := "laws.go:393", after := #[{ on := 16, ground := Ground.data }, { on := 15, ground := Ground.chain }, { on := 13, ground := Ground.guard }], guard := some (13, true) }) (rs := []) rfl (fun K hK => ?_) AllReadyT.nil)
      go_simp
      (refine (VG.out _ hb1).mono ?_; rintro e wv2 ⟨rfl, k⟩; have hb2 := hb1.trans (k.mono hb1.size))
      refine hK.out _ _ ?_ (fun hHeld => ?_)
      · exact Cell.out _ hb2
      clear hK K
      try simp only [Act.put, List.setIfInBounds_toArray, List.set_cons_zero, List.set_cons_succ]
      refine wpAnyT_take (i := 18) (oi := { dst := some 146, op := Op.move (Operand.tmp 145), type := 4, pos := "laws.go:393", after := #[{ on := 17, ground := Ground.data }, { on := 17, ground := Ground.chain }, { on := 13, ground := Ground.guard }], guard := some (13, true) }) (v := ?_) rfl (by kernel_rfl) (fun _ _ _ h => h) (Or.inl ⟨by rfl, ?_⟩) (by assumption) ?_
      rotate_left 1
      · intro w hSw; (try dsimp only at hSw); go_simp; try (with_reducible rfl)
      try simp only [Act.put, List.setIfInBounds_toArray, List.set_cons_zero, List.set_cons_succ]
      refine wpAnyT_take (i := 19) (oi := { dst := some 147, op := Op.move (Operand.tmp 12), type := 4, pos := "laws.go:393", after := #[{ on := 18, ground := Ground.guard }], guard := some (18, true) }) (v := undef) rfl (by kernel_rfl) (fun _ _ _ h => h) (Or.inr ⟨by rfl, rfl⟩) (by assumption) ?_
      try simp only [Act.put, List.setIfInBounds_toArray, List.set_cons_zero, List.set_cons_succ]
      refine wpAnyT_take (i := 20) (oi := { dst := some 148, op := Op.unOp UnOp.not 4 (Operand.tmp 147), type := 4, pos := "laws.go:393", after := #[{ on := 19, ground := Ground.data }, { on := 18, ground := Ground.guard }], guard := some (18, true) }) (v := undef) rfl (by kernel_rfl) (fun _ _ _ h => h) (Or.inr ⟨by rfl, rfl⟩) (by assumption) ?_
      try simp only [Act.put, List.setIfInBounds_toArray, List.set_cons_zero, List.set_cons_succ]
      refine wpAnyT_take (i := 21) (oi := { dst := some 149, op := Op.pick (Operand.tmp 146) (Operand.tmp 148) (Operand.const (Value.bool false)), type := 4, pos := "laws.go:393", after := #[{ on := 18, ground := Ground.data }, { on := 20, ground := Ground.data }, { on := 13, ground := Ground.guard }], guard := some (13, true) }) (v := ?_) rfl (by kernel_rfl) (fun _ _ _ h => h) (Or.inl ⟨by rfl, ?_⟩) (by assumption) ?_
      rotate_left 1
      · intro w hSw; (try dsimp only at hSw); go_simp; try (with_reducible rfl)
      try simp only [Act.put, List.setIfInBounds_toArray, List.set_cons_zero, List.set_cons_succ]
      refine wpAnyT_take (i := 22) (oi := { dst := some 150, op := Op.binOp BinOp.eql 4 (Operand.tmp 143) (Operand.tmp 149) 4, type := 4, pos := "laws.go:393", after := #[{ on := 15, ground := Ground.data }, { on := 21, ground := Ground.data }, { on := 13, ground := Ground.guard }], guard := some (13, true) }) (v := ?_) rfl (by kernel_rfl) (fun _ _ _ h => h) (Or.inl ⟨by rfl, ?_⟩) (by assumption) ?_
      rotate_left 1
      · intro w hSw; (try dsimp only at hSw); go_simp; try (with_reducible rfl)
      try simp only [Act.put, List.setIfInBounds_toArray, List.set_cons_zero, List.set_cons_succ]
      refine wpAnyT_take (i := 23) (oi := { dst := some 151, op := Op.pick (Operand.tmp 141) (Operand.tmp 150) (Operand.const (Value.bool false)), type := 4, pos := "laws.go:393", after := #[{ on := 13, ground := Ground.data }, { on := 22, ground := Ground.data }], guard := none }) (v := ?_) rfl (by kernel_rfl) (fun _ _ _ h => h) (Or.inl ⟨by rfl, ?_⟩) (by assumption) ?_
      rotate_left 1
      · intro w hSw; (try dsimp only at hSw); go_simp; try (with_reducible rfl)
      try simp only [Act.put, List.setIfInBounds_toArray, List.set_cons_zero, List.set_cons_succ]
      refine wpAnyT_take (i := 24) (oi := { dst := some 152, op := Op.move (Operand.tmp 151), type := 4, pos := "laws.go:393", after := #[{ on := 23, ground := Ground.data }, { on := 18, ground := Ground.chain }], guard := none }) (v := ?_) rfl (by kernel_rfl) (fun _ _ _ h => h) (Or.inl ⟨by rfl, ?_⟩) (by assumption) ?_
      rotate_left 1
      · intro w hSw; (try dsimp only at hSw); go_simp; try (with_reducible rfl)
      try simp only [Act.put, List.setIfInBounds_toArray, List.set_cons_zero, List.set_cons_succ]
      refine wpAnyT_take (i := 25) (oi := { dst := some 153, op := Op.load 26 (Operand.tmp 3), type := 26, pos := "laws.go:393", after := #[{ on := 24, ground := Ground.guard }], guard := some (24, true) }) (v := ?_) rfl (by kernel_rfl) (fun _ _ _ h => h) (Or.inl ⟨by rfl, ?_⟩) (by assumption) ?_
      rotate_left 1
      · intro w hSw; (try dsimp only at hSw); go_simp; try (with_reducible rfl)
      try simp only [Act.put, List.setIfInBounds_toArray, List.set_cons_zero, List.set_cons_succ]
      refine wpAnyT_take (i := 27) (oi := { dst := some 155, op := Op.load 26 (Operand.tmp 3), type := 26, pos := "laws.go:393", after := #[{ on := 24, ground := Ground.guard }], guard := some (24, true) }) (v := ?_) rfl (by kernel_rfl) (fun _ _ _ h => h) (Or.inl ⟨by rfl, ?_⟩) (by assumption) ?_
      rotate_left 1
      · intro w hSw; (try dsimp only at hSw); go_simp; try (with_reducible rfl)
      try simp only [Act.put, List.setIfInBounds_toArray, List.set_cons_zero, List.set_cons_succ]
      refine wpAnyT_ready (rs := [26]) (by kernel_rfl) (by simp) ?_
      refine (AllReadyT.cons (o := { dst := some 154, op := Op.call { callee := Callee.value (Operand.func 17), args := #[Operand.tmp 153], argTypes := #[26] }, type := 4, pos := "laws.go:393", after := #[{ on := 25, ground := Ground.data }, { on := 24, ground := Ground.chain }, { on := 24, ground := Ground.guard }], guard := some (24, true) }) (rs := []) rfl (fun K hK => ?_) AllReadyT.nil)
      go_simp
      (refine (TS.out _ hb2).mono ?_; rintro e wv3 ⟨rfl, k⟩; have hb3 := hb2.trans (k.mono hb2.size))
      refine hK.out _ _ ?_ (fun hHeld => ?_)
      · exact Cell.out _ hb3
      clear hK K
      try simp only [Act.put, List.setIfInBounds_toArray, List.set_cons_zero, List.set_cons_succ]
      refine wpAnyT_ready (rs := [28]) (by kernel_rfl) (by simp) ?_
      refine (AllReadyT.cons (o := { dst := some 156, op := Op.call { callee := Callee.value (Operand.func 27), args := #[Operand.tmp 155], argTypes := #[26] }, type := 4, pos := "laws.go:393", after := #[{ on := 27, ground := Ground.data }, { on := 26, ground := Ground.chain }, { on := 24, ground := Ground.guard }], guard := some (24, true) }) (rs := []) rfl (fun K hK => ?_) AllReadyT.nil)
      go_simp
      (refine (VG.out _ hb3).mono ?_; rintro e wv4 ⟨rfl, k⟩; have hb4 := hb3.trans (k.mono hb3.size))
      refine hK.out _ _ ?_ (fun hHeld => ?_)
      · exact Cell.out _ hb4
      clear hK K
      try simp only [Act.put, List.setIfInBounds_toArray, List.set_cons_zero, List.set_cons_succ]
      refine wpAnyT_take (i := 29) (oi := { dst := some 157, op := Op.move (Operand.tmp 156), type := 4, pos := "laws.go:393", after := #[{ on := 28, ground := Ground.data }, { on := 28, ground := Ground.chain }, { on := 24, ground := Ground.guard }], guard := some (24, true) }) (v := ?_) rfl (by kernel_rfl) (fun _ _ _ h => h) (Or.inl ⟨by rfl, ?_⟩) (by assumption) ?_
      rotate_left 1
      · intro w hSw; (try dsimp only at hSw); go_simp; try (with_reducible rfl)
      try simp only [Act.put, List.setIfInBounds_toArray, List.set_cons_zero, List.set_cons_succ]
      refine wpAnyT_take (i := 30) (oi := { dst := some 158, op := Op.move (Operand.tmp 18), type := 4, pos := "laws.go:393", after := #[{ on := 29, ground := Ground.guard }], guard := some (29, true) }) (v := undef) rfl (by kernel_rfl) (fun _ _ _ h => h) (Or.inr ⟨by rfl, rfl⟩) (by assumption) ?_
      try simp only [Act.put, List.setIfInBounds_toArray, List.set_cons_zero, List.set_cons_succ]
      refine wpAnyT_take (i := 31) (oi := { dst := some 159, op := Op.unOp UnOp.not 4 (Operand.tmp 158), type := 4, pos := "laws.go:393", after := #[{ on := 30, ground := Ground.data }, { on := 29, ground := Ground.guard }], guard := some (29, true) }) (v := undef) rfl (by kernel_rfl) (fun _ _ _ h => h) (Or.inr ⟨by rfl, rfl⟩) (by assumption) ?_
      try simp only [Act.put, List.setIfInBounds_toArray, List.set_cons_zero, List.set_cons_succ]
      refine wpAnyT_take (i := 32) (oi := { dst := some 160, op := Op.pick (Operand.tmp 157) (Operand.tmp 159) (Operand.const (Value.bool false)), type := 4, pos := "laws.go:393", after := #[{ on := 29, ground := Ground.data }, { on := 31, ground := Ground.data }, { on := 24, ground := Ground.guard }], guard := some (24, true) }) (v := ?_) rfl (by kernel_rfl) (fun _ _ _ h => h) (Or.inl ⟨by rfl, ?_⟩) (by assumption) ?_
      rotate_left 1
      · intro w hSw; (try dsimp only at hSw); go_simp; try (with_reducible rfl)
      try simp only [Act.put, List.setIfInBounds_toArray, List.set_cons_zero, List.set_cons_succ]
      refine wpAnyT_take (i := 33) (oi := { dst := some 161, op := Op.binOp BinOp.eql 4 (Operand.tmp 154) (Operand.tmp 160) 4, type := 4, pos := "laws.go:393", after := #[{ on := 26, ground := Ground.data }, { on := 32, ground := Ground.data }, { on := 24, ground := Ground.guard }], guard := some (24, true) }) (v := ?_) rfl (by kernel_rfl) (fun _ _ _ h => h) (Or.inl ⟨by rfl, ?_⟩) (by assumption) ?_
      rotate_left 1
      · intro w hSw; (try dsimp only at hSw); go_simp; try (with_reducible rfl)
      try simp only [Act.put, List.setIfInBounds_toArray, List.set_cons_zero, List.set_cons_succ]
      refine wpAnyT_take (i := 34) (oi := { dst := some 162, op := Op.pick (Operand.tmp 152) (Operand.tmp 161) (Operand.const (Value.bool false)), type := 4, pos := "laws.go:393", after := #[{ on := 24, ground := Ground.data }, { on := 33, ground := Ground.data }], guard := none }) (v := ?_) rfl (by kernel_rfl) (fun _ _ _ h => h) (Or.inl ⟨by rfl, ?_⟩) (by assumption) ?_
      rotate_left 1
      · intro w hSw; (try dsimp only at hSw); go_simp; try (with_reducible rfl)
      try simp only [Act.put, List.setIfInBounds_toArray, List.set_cons_zero, List.set_cons_succ]
      refine wpAnyT_ready (rs := [35]) (by kernel_rfl) (by simp) ?_
      refine (AllReadyT.last (o := { dst := some 2, op := Op.assign (Operand.tmp 162), type := 4, pos := "laws.go:393", after := #[{ on := 34, ground := Ground.data }, { on := 29, ground := Ground.chain }, { on := 0, ground := Ground.phase }, { on := 1, ground := Ground.phase }, { on := 2, ground := Ground.phase }, { on := 3, ground := Ground.phase }, { on := 4, ground := Ground.phase }, { on := 5, ground := Ground.phase }, { on := 6, ground := Ground.phase }, { on := 7, ground := Ground.phase }, { on := 8, ground := Ground.phase }, { on := 9, ground := Ground.phase }, { on := 10, ground := Ground.phase }, { on := 11, ground := Ground.phase }, { on := 12, ground := Ground.phase }, { on := 13, ground := Ground.phase }, { on := 14, ground := Ground.phase }, { on := 15, ground := Ground.phase }, { on := 16, ground := Ground.phase }, { on := 17, ground := Ground.phase }, { on := 18, ground := Ground.phase }, { on := 19, ground := Ground.phase }, { on := 20, ground := Ground.phase }, { on := 21, ground := Ground.phase }, { on := 22, ground := Ground.phase }, { on := 23, ground := Ground.phase }, { on := 24, ground := Ground.phase }, { on := 25, ground := Ground.phase }, { on := 26, ground := Ground.phase }, { on := 27, ground := Ground.phase }, { on := 28, ground := Ground.phase }, { on := 29, ground := Ground.phase }, { on := 30, ground := Ground.phase }, { on := 31, ground := Ground.phase }, { on := 32, ground := Ground.phase }, { on := 33, ground := Ground.phase }, { on := 34, ground := Ground.phase }], guard := none }) (rs := []) rfl (by rfl) (fun K hK => ?_) AllReadyT.nil)
      go_simp
      refine hK.out _ _ ?_
      clear hK K
      try simp only [Act.put, List.setIfInBounds_toArray, List.set_cons_zero, List.set_cons_succ]
      refine wpAnyT_done (by kernel_rfl) ?_ _
      go_wp2_with fail
      go_ret
      exact ⟨rfl, HB.out.trans (hb4.mono hle)⟩
    · clear hno
      rcases bad with _ | _
      · obtain rfl := hcs rfl rfl
        clear hcs
        rcases fau with _ | _
        · rw [show (true && !false) = true from rfl] at TC
          rw [show (true && !false) = true from rfl] at TM
          rw [show (true && !false) = true from rfl] at TS
          refine (IC.out _ HBW.out).mono ?_
          rintro e w11 ⟨rfl, k⟩
          replace HBW := Lib.hid (HBW.out.trans (k.mono HBW.out.size))
          obtain ⟨m0, m1, -⟩ := Cell.out _ HBW.out
          clear k
          go_wp2_with fail
          refine (SC.out _ HBW.out).mono ?_
          rintro e w12 ⟨rfl, k⟩
          replace HBW := Lib.hid (HBW.out.trans (k.mono HBW.out.size))
          obtain ⟨m0, m1, -⟩ := Cell.out _ HBW.out
          clear k
          go_wp2_with fail
          refine (TC.out _ HBW.out).mono ?_
          rintro e w13 ⟨rfl, k⟩
          replace HBW := Lib.hid (HBW.out.trans (k.mono HBW.out.size))
          obtain ⟨m0, m1, -⟩ := Cell.out _ HBW.out
          clear k
          go_wp2_with fail
          refine (TS.out _ HBW.out).mono ?_
          rintro e w14 ⟨rfl, k⟩
          replace HBW := Lib.hid (HBW.out.trans (k.mono HBW.out.size))
          obtain ⟨m0, m1, -⟩ := Cell.out _ HBW.out
          clear k
          go_upto_region 8 with fail
          have hb0 := HBW.out.drew
          refine wp_region_T_drew (S := (fun w' => w'.cell? ⟨q, 0, none⟩ = some x ∧ w'.cell? ⟨q, 1, none⟩ = some v ∧ Below W.heap.size W w')) 21 (by kernel_rfl) ?_ (fun hHeld => ?_)
          · exact Cell.out _ hb0
          refine wpAnyT_take (i := 0) (oi := { dst := some 60, op := Op.move (Operand.tmp 6), type := 4, pos := "laws.go:383", after := #[], guard := none }) (v := ?_) rfl (by kernel_rfl) (fun _ _ _ h => h) (Or.inl ⟨by rfl, ?_⟩) (by assumption) ?_
          rotate_left 1
          · intro w hSw; (try dsimp only at hSw); go_simp; try (with_reducible rfl)
          try simp only [Act.put, List.setIfInBounds_toArray, List.set_cons_zero, List.set_cons_succ]
          refine wpAnyT_take (i := 1) (oi := { dst := some 61, op := Op.move (Operand.tmp 60), type := 4, pos := "laws.go:383", after := #[{ on := 0, ground := Ground.data }], guard := none }) (v := ?_) rfl (by kernel_rfl) (fun _ _ _ h => h) (Or.inl ⟨by rfl, ?_⟩) (by assumption) ?_
          rotate_left 1
          · intro w hSw; (try dsimp only at hSw); go_simp; try (with_reducible rfl)
          try simp only [Act.put, List.setIfInBounds_toArray, List.set_cons_zero, List.set_cons_succ]
          refine wpAnyT_take (i := 2) (oi := { dst := some 62, op := Op.load 26 (Operand.tmp 3), type := 26, pos := "laws.go:383", after := #[{ on := 1, ground := Ground.guard }], guard := some (1, true) }) (v := undef) rfl (by kernel_rfl) (fun _ _ _ h => h) (Or.inr ⟨by rfl, rfl⟩) (by assumption) ?_
          try simp only [Act.put, List.setIfInBounds_toArray, List.set_cons_zero, List.set_cons_succ]
          refine wpAnyT_take (i := 3) (oi := { dst := some 63, op := Op.move (Operand.tmp 4), type := 3, pos := "laws.go:383", after := #[{ on := 1, ground := Ground.guard }], guard := some (1, true) }) (v := undef) rfl (by kernel_rfl) (fun _ _ _ h => h) (Or.inr ⟨by rfl, rfl⟩) (by assumption) ?_
          try simp only [Act.put, List.setIfInBounds_toArray, List.set_cons_zero, List.set_cons_succ]
          refine wpAnyT_take (i := 4) (oi := { dst := some 64, op := Op.call { callee := Callee.value (Operand.func 18), args := #[Operand.tmp 62, Operand.tmp 63], argTypes := #[26, 3] }, type := 3, pos := "laws.go:383", after := #[{ on := 2, ground := Ground.data }, { on := 3, ground := Ground.data }, { on := 1, ground := Ground.chain }, { on := 1, ground := Ground.guard }], guard := some (1, true) }) (v := undef) rfl (by kernel_rfl) (fun _ _ _ h => h) (Or.inr ⟨by rfl, rfl⟩) (by assumption) ?_
          try simp only [Act.put, List.setIfInBounds_toArray, List.set_cons_zero, List.set_cons_succ]
          refine wpAnyT_take (i := 5) (oi := { dst := some 65, op := Op.load 26 (Operand.tmp 3), type := 26, pos := "laws.go:383", after := #[{ on := 1, ground := Ground.guard }], guard := some (1, true) }) (v := undef) rfl (by kernel_rfl) (fun _ _ _ h => h) (Or.inr ⟨by rfl, rfl⟩) (by assumption) ?_
          try simp only [Act.put, List.setIfInBounds_toArray, List.set_cons_zero, List.set_cons_succ]
          refine wpAnyT_take (i := 6) (oi := { dst := some 66, op := Op.move (Operand.tmp 5), type := 3, pos := "laws.go:383", after := #[{ on := 1, ground := Ground.guard }], guard := some (1, true) }) (v := undef) rfl (by kernel_rfl) (fun _ _ _ h => h) (Or.inr ⟨by rfl, rfl⟩) (by assumption) ?_
          try simp only [Act.put, List.setIfInBounds_toArray, List.set_cons_zero, List.set_cons_succ]
          refine wpAnyT_take (i := 7) (oi := { dst := some 67, op := Op.call { callee := Callee.value (Operand.func 18), args := #[Operand.tmp 65, Operand.tmp 66], argTypes := #[26, 3] }, type := 3, pos := "laws.go:383", after := #[{ on := 5, ground := Ground.data }, { on := 6, ground := Ground.data }, { on := 4, ground := Ground.chain }, { on := 1, ground := Ground.guard }], guard := some (1, true) }) (v := undef) rfl (by kernel_rfl) (fun _ _ _ h => h) (Or.inr ⟨by rfl, rfl⟩) (by assumption) ?_
          try simp only [Act.put, List.setIfInBounds_toArray, List.set_cons_zero, List.set_cons_succ]
          refine wpAnyT_take (i := 8) (oi := { dst := some 68, op := Op.binOp BinOp.add 3 (Operand.tmp 64) (Operand.tmp 67) 3, type := 3, pos := "laws.go:383", after := #[{ on := 4, ground := Ground.data }, { on := 7, ground := Ground.data }, { on := 1, ground := Ground.guard }], guard := some (1, true) }) (v := undef) rfl (by kernel_rfl) (fun _ _ _ h => h) (Or.inr ⟨by rfl, rfl⟩) (by assumption) ?_
          try simp only [Act.put, List.setIfInBounds_toArray, List.set_cons_zero, List.set_cons_succ]
          refine wpAnyT_take (i := 9) (oi := { dst := some 69, op := Op.load 26 (Operand.tmp 3), type := 26, pos := "laws.go:383", after := #[{ on := 1, ground := Ground.guard }], guard := some (1, true) }) (v := undef) rfl (by kernel_rfl) (fun _ _ _ h => h) (Or.inr ⟨by rfl, rfl⟩) (by assumption) ?_
          try simp only [Act.put, List.setIfInBounds_toArray, List.set_cons_zero, List.set_cons_succ]
          refine wpAnyT_take (i := 10) (oi := { dst := some 70, op := Op.move (Operand.tmp 4), type := 3, pos := "laws.go:383", after := #[{ on := 1, ground := Ground.guard }], guard := some (1, true) }) (v := undef) rfl (by kernel_rfl) (fun _ _ _ h => h) (Or.inr ⟨by rfl, rfl⟩) (by assumption) ?_
          try simp only [Act.put, List.setIfInBounds_toArray, List.set_cons_zero, List.set_cons_succ]
          refine wpAnyT_take (i := 11) (oi := { dst := some 71, op := Op.move (Operand.tmp 5), type := 3, pos := "laws.go:383", after := #[{ on := 1, ground := Ground.guard }], guard := some (1, true) }) (v := undef) rfl (by kernel_rfl) (fun _ _ _ h => h) (Or.inr ⟨by rfl, rfl⟩) (by assumption) ?_
          try simp only [Act.put, List.setIfInBounds_toArray, List.set_cons_zero, List.set_cons_succ]
          refine wpAnyT_take (i := 12) (oi := { dst := some 72, op := Op.call { callee := Callee.value (Operand.func 19), args := #[Operand.tmp 70, Operand.tmp 71], argTypes := #[3, 3] }, type := 3, pos := "laws.go:383", after := #[{ on := 10, ground := Ground.data }, { on := 11, ground := Ground.data }, { on := 7, ground := Ground.chain }, { on := 1, ground := Ground.guard }], guard := some (1, true) }) (v := undef) rfl (by kernel_rfl) (fun _ _ _ h => h) (Or.inr ⟨by rfl, rfl⟩) (by assumption) ?_
          try simp only [Act.put, List.setIfInBounds_toArray, List.set_cons_zero, List.set_cons_succ]
          refine wpAnyT_take (i := 13) (oi := { dst := some 73, op := Op.call { callee := Callee.value (Operand.func 18), args := #[Operand.tmp 69, Operand.tmp 72], argTypes := #[26, 3] }, type := 3, pos := "laws.go:383", after := #[{ on := 9, ground := Ground.data }, { on := 12, ground := Ground.data }, { on := 12, ground := Ground.chain }, { on := 1, ground := Ground.guard }], guard := some (1, true) }) (v := undef) rfl (by kernel_rfl) (fun _ _ _ h => h) (Or.inr ⟨by rfl, rfl⟩) (by assumption) ?_
          try simp only [Act.put, List.setIfInBounds_toArray, List.set_cons_zero, List.set_cons_succ]
          refine wpAnyT_take (i := 14) (oi := { dst := some 74, op := Op.load 26 (Operand.tmp 3), type := 26, pos := "laws.go:383", after := #[{ on := 1, ground := Ground.guard }], guard := some (1, true) }) (v := undef) rfl (by kernel_rfl) (fun _ _ _ h => h) (Or.inr ⟨by rfl, rfl⟩) (by assumption) ?_
          try simp only [Act.put, List.setIfInBounds_toArray, List.set_cons_zero, List.set_cons_succ]
          refine wpAnyT_take (i := 15) (oi := { dst := some 75, op := Op.move (Operand.tmp 4), type := 3, pos := "laws.go:383", after := #[{ on := 1, ground := Ground.guard }], guard := some (1, true) }) (v := undef) rfl (by kernel_rfl) (fun _ _ _ h => h) (Or.inr ⟨by rfl, rfl⟩) (by assumption) ?_
          try simp only [Act.put, List.setIfInBounds_toArray, List.set_cons_zero, List.set_cons_succ]
          refine wpAnyT_take (i := 16) (oi := { dst := some 76, op := Op.move (Operand.tmp 5), type := 3, pos := "laws.go:383", after := #[{ on := 1, ground := Ground.guard }], guard := some (1, true) }) (v := undef) rfl (by kernel_rfl) (fun _ _ _ h => h) (Or.inr ⟨by rfl, rfl⟩) (by assumption) ?_
          try simp only [Act.put, List.setIfInBounds_toArray, List.set_cons_zero, List.set_cons_succ]
          refine wpAnyT_take (i := 17) (oi := { dst := some 77, op := Op.call { callee := Callee.value (Operand.func 20), args := #[Operand.tmp 75, Operand.tmp 76], argTypes := #[3, 3] }, type := 3, pos := "laws.go:383", after := #[{ on := 15, ground := Ground.data }, { on := 16, ground := Ground.data }, { on := 13, ground := Ground.chain }, { on := 1, ground := Ground.guard }], guard := some (1, true) }) (v := undef) rfl (by kernel_rfl) (fun _ _ _ h => h) (Or.inr ⟨by rfl, rfl⟩) (by assumption) ?_
          try simp only [Act.put, List.setIfInBounds_toArray, List.set_cons_zero, List.set_cons_succ]
          refine wpAnyT_take (i := 18) (oi := { dst := some 78, op := Op.call { callee := Callee.value (Operand.func 18), args := #[Operand.tmp 74, Operand.tmp 77], argTypes := #[26, 3] }, type := 3, pos := "laws.go:383", after := #[{ on := 14, ground := Ground.data }, { on := 17, ground := Ground.data }, { on := 17, ground := Ground.chain }, { on := 1, ground := Ground.guard }], guard := some (1, true) }) (v := undef) rfl (by kernel_rfl) (fun _ _ _ h => h) (Or.inr ⟨by rfl, rfl⟩) (by assumption) ?_
          try simp only [Act.put, List.setIfInBounds_toArray, List.set_cons_zero, List.set_cons_succ]
          refine wpAnyT_take (i := 19) (oi := { dst := some 79, op := Op.binOp BinOp.add 3 (Operand.tmp 73) (Operand.tmp 78) 3, type := 3, pos := "laws.go:383", after := #[{ on := 13, ground := Ground.data }, { on := 18, ground := Ground.data }, { on := 1, ground := Ground.guard }], guard := some (1, true) }) (v := undef) rfl (by kernel_rfl) (fun _ _ _ h => h) (Or.inr ⟨by rfl, rfl⟩) (by assumption) ?_
          try simp only [Act.put, List.setIfInBounds_toArray, List.set_cons_zero, List.set_cons_succ]
          refine wpAnyT_take (i := 20) (oi := { dst := some 80, op := Op.binOp BinOp.leq 3 (Operand.tmp 68) (Operand.tmp 79) 3, type := 4, pos := "laws.go:383", after := #[{ on := 8, ground := Ground.data }, { on := 19, ground := Ground.data }, { on := 1, ground := Ground.guard }], guard := some (1, true) }) (v := undef) rfl (by kernel_rfl) (fun _ _ _ h => h) (Or.inr ⟨by rfl, rfl⟩) (by assumption) ?_
          try simp only [Act.put, List.setIfInBounds_toArray, List.set_cons_zero, List.set_cons_succ]
          refine wpAnyT_ready (rs := [21]) (by kernel_rfl) (by simp) ?_
          refine (AllReadyT.last (o := { dst := some 81, op := Op.pick (Operand.tmp 61) (Operand.tmp 80) (Operand.const (Value.bool false)), type := 4, pos := "laws.go:383", after := #[{ on := 1, ground := Ground.data }, { on := 20, ground := Ground.data }], guard := none }) (rs := []) rfl (by rfl) (fun K hK => ?_) AllReadyT.nil)
          go_simp
          refine hK.out _ _ ?_
          clear hK K
          try simp only [Act.put, List.setIfInBounds_toArray, List.set_cons_zero, List.set_cons_succ]
          refine wpAnyT_done (by kernel_rfl) ?_ _
          replace HBW := Lib.hid hb0
          obtain ⟨m0, m1, -⟩ := Cell.out _ HBW.out
          go_wp2_with fail
          refine (IM.out _ HBW.out).mono ?_
          rintro e w15 ⟨rfl, k⟩
          replace HBW := Lib.hid (HBW.out.trans (k.mono HBW.out.size))
          obtain ⟨m0, m1, -⟩ := Cell.out _ HBW.out
          clear k
          go_wp2_with fail
          refine (SM.out _ HBW.out).mono ?_
          rintro e w16 ⟨rfl, k⟩
          replace HBW := Lib.hid (HBW.out.trans (k.mono HBW.out.size))
          obtain ⟨m0, m1, -⟩ := Cell.out _ HBW.out
          clear k
          go_wp2_with fail
          refine (IS.out _ HBW.out).mono ?_
          rintro e w17 ⟨rfl, k⟩
          replace HBW := Lib.hid (HBW.out.trans (k.mono HBW.out.size))
          obtain ⟨m0, m1, -⟩ := Cell.out _ HBW.out
          clear k
          go_wp2_with fail
          refine (SS.out _ HBW.out).mono ?_
          rintro e w18 ⟨rfl, k⟩
          replace HBW := Lib.hid (HBW.out.trans (k.mono HBW.out.size))
          obtain ⟨m0, m1, -⟩ := Cell.out _ HBW.out
          clear k
          go_upto_region 16 with fail
          have hb0 := HBW.out.drew
          refine wp_region_T_drew (S := (fun w' => w'.cell? ⟨q, 0, none⟩ = some x ∧ w'.cell? ⟨q, 1, none⟩ = some v ∧ Below W.heap.size W w')) 35 (by kernel_rfl) ?_ (fun hHeld => ?_)
          · exact Cell.out _ hb0
          refine wpAnyT_take (i := 0) (oi := { dst := some 128, op := Op.move (Operand.tmp 16), type := 3, pos := "laws.go:393", after := #[], guard := none }) (v := ?_) rfl (by kernel_rfl) (fun _ _ _ h => h) (Or.inl ⟨by rfl, ?_⟩) (by assumption) ?_
          rotate_left 1
          · intro w hSw; (try dsimp only at hSw); go_simp; try (with_reducible rfl)
          try simp only [Act.put, List.setIfInBounds_toArray, List.set_cons_zero, List.set_cons_succ]
          refine wpAnyT_take (i := 1) (oi := { dst := some 129, op := Op.move (Operand.tmp 19), type := 3, pos := "laws.go:393", after := #[], guard := none }) (v := ?_) rfl (by kernel_rfl) (fun _ _ _ h => h) (Or.inl ⟨by rfl, ?_⟩) (by assumption) ?_
          rotate_left 1
          · intro w hSw; (try dsimp only at hSw); go_simp; try (with_reducible rfl)
          try simp only [Act.put, List.setIfInBounds_toArray, List.set_cons_zero, List.set_cons_succ]
          refine wpAnyT_take (i := 2) (oi := { dst := some 130, op := Op.binOp BinOp.eql 3 (Operand.tmp 128) (Operand.tmp 129) 3, type := 4, pos := "laws.go:393", after := #[{ on := 0, ground := Ground.data }, { on := 1, ground := Ground.data }], guard := none }) (v := ?_) rfl (by kernel_rfl) (fun _ _ _ h => h) (Or.inl ⟨by rfl, ?_⟩) (by assumption) ?_
          rotate_left 1
          · intro w hSw; (try dsimp only at hSw); go_simp; try (with_reducible rfl)
          try simp only [Act.put, List.setIfInBounds_toArray, List.set_cons_zero, List.set_cons_succ]
          refine wpAnyT_take (i := 3) (oi := { dst := some 131, op := Op.move (Operand.tmp 130), type := 4, pos := "laws.go:393", after := #[{ on := 2, ground := Ground.data }], guard := none }) (v := ?_) rfl (by kernel_rfl) (fun _ _ _ h => h) (Or.inl ⟨by rfl, ?_⟩) (by assumption) ?_
          rotate_left 1
          · intro w hSw; (try dsimp only at hSw); go_simp; try (with_reducible rfl)
          try simp only [Act.put, List.setIfInBounds_toArray, List.set_cons_zero, List.set_cons_succ]
          refine wpAnyT_take (i := 4) (oi := { dst := some 132, op := Op.move (Operand.tmp 17), type := 3, pos := "laws.go:393", after := #[{ on := 3, ground := Ground.guard }], guard := some (3, true) }) (v := ?_) rfl (by kernel_rfl) (fun _ _ _ h => h) (Or.inl ⟨by rfl, ?_⟩) (by assumption) ?_
          rotate_left 1
          · intro w hSw; (try dsimp only at hSw); go_simp; try (with_reducible rfl)
          try simp only [Act.put, List.setIfInBounds_toArray, List.set_cons_zero, List.set_cons_succ]
          refine wpAnyT_take (i := 5) (oi := { dst := some 133, op := Op.move (Operand.tmp 20), type := 3, pos := "laws.go:393", after := #[{ on := 3, ground := Ground.guard }], guard := some (3, true) }) (v := ?_) rfl (by kernel_rfl) (fun _ _ _ h => h) (Or.inl ⟨by rfl, ?_⟩) (by assumption) ?_
          rotate_left 1
          · intro w hSw; (try dsimp only at hSw); go_simp; try (with_reducible rfl)
          try simp only [Act.put, List.setIfInBounds_toArray, List.set_cons_zero, List.set_cons_succ]
          refine wpAnyT_take (i := 6) (oi := { dst := some 134, op := Op.binOp BinOp.eql 3 (Operand.tmp 132) (Operand.tmp 133) 3, type := 4, pos := "laws.go:393", after := #[{ on := 4, ground := Ground.data }, { on := 5, ground := Ground.data }, { on := 3, ground := Ground.guard }], guard := some (3, true) }) (v := ?_) rfl (by kernel_rfl) (fun _ _ _ h => h) (Or.inl ⟨by rfl, ?_⟩) (by assumption) ?_
          rotate_left 1
          · intro w hSw; (try dsimp only at hSw); go_simp; try (with_reducible rfl)
          try simp only [Act.put, List.setIfInBounds_toArray, List.set_cons_zero, List.set_cons_succ]
          refine wpAnyT_take (i := 7) (oi := { dst := some 135, op := Op.pick (Operand.tmp 131) (Operand.tmp 134) (Operand.const (Value.bool false)), type := 4, pos := "laws.go:393", after := #[{ on := 3, ground := Ground.data }, { on := 6, ground := Ground.data }], guard := none }) (v := ?_) rfl (by kernel_rfl) (fun _ _ _ h => h) (Or.inl ⟨by rfl, ?_⟩) (by assumption) ?_
          rotate_left 1
          · intro w hSw; (try dsimp only at hSw); go_simp; try (with_reducible rfl)
          try simp only [Act.put, List.setIfInBounds_toArray, List.set_cons_zero, List.set_cons_succ]
          refine wpAnyT_take (i := 8) (oi := { dst := some 136, op := Op.move (Operand.tmp 135), type := 4, pos := "laws.go:393", after := #[{ on := 7, ground := Ground.data }, { on := 3, ground := Ground.chain }], guard := none }) (v := ?_) rfl (by kernel_rfl) (fun _ _ _ h => h) (Or.inl ⟨by rfl, ?_⟩) (by assumption) ?_
          rotate_left 1
          · intro w hSw; (try dsimp only at hSw); go_simp; try (with_reducible rfl)
          try simp only [Act.put, List.setIfInBounds_toArray, List.set_cons_zero, List.set_cons_succ]
          refine wpAnyT_take (i := 9) (oi := { dst := some 137, op := Op.move (Operand.tmp 18), type := 4, pos := "laws.go:393", after := #[{ on := 8, ground := Ground.guard }], guard := some (8, true) }) (v := ?_) rfl (by kernel_rfl) (fun _ _ _ h => h) (Or.inl ⟨by rfl, ?_⟩) (by assumption) ?_
          rotate_left 1
          · intro w hSw; (try dsimp only at hSw); go_simp; try (with_reducible rfl)
          try simp only [Act.put, List.setIfInBounds_toArray, List.set_cons_zero, List.set_cons_succ]
          refine wpAnyT_take (i := 10) (oi := { dst := some 138, op := Op.move (Operand.tmp 21), type := 4, pos := "laws.go:393", after := #[{ on := 8, ground := Ground.guard }], guard := some (8, true) }) (v := ?_) rfl (by kernel_rfl) (fun _ _ _ h => h) (Or.inl ⟨by rfl, ?_⟩) (by assumption) ?_
          rotate_left 1
          · intro w hSw; (try dsimp only at hSw); go_simp; try (with_reducible rfl)
          try simp only [Act.put, List.setIfInBounds_toArray, List.set_cons_zero, List.set_cons_succ]
          refine wpAnyT_take (i := 11) (oi := { dst := some 139, op := Op.binOp BinOp.eql 4 (Operand.tmp 137) (Operand.tmp 138) 4, type := 4, pos := "laws.go:393", after := #[{ on := 9, ground := Ground.data }, { on := 10, ground := Ground.data }, { on := 8, ground := Ground.guard }], guard := some (8, true) }) (v := ?_) rfl (by kernel_rfl) (fun _ _ _ h => h) (Or.inl ⟨by rfl, ?_⟩) (by assumption) ?_
          rotate_left 1
          · intro w hSw; (try dsimp only at hSw); go_simp; try (with_reducible rfl)
          try simp only [Act.put, List.setIfInBounds_toArray, List.set_cons_zero, List.set_cons_succ]
          refine wpAnyT_take (i := 12) (oi := { dst := some 140, op := Op.pick (Operand.tmp 136) (Operand.tmp 139) (Operand.const (Value.bool false)), type := 4, pos := "laws.go:393", after := #[{ on := 8, ground := Ground.data }, { on := 11, ground := Ground.data }], guard := none }) (v := ?_) rfl (by kernel_rfl) (fun _ _ _ h => h) (Or.inl ⟨by rfl, ?_⟩) (by assumption) ?_
          rotate_left 1
          · intro w hSw; (try dsimp only at hSw); go_simp; try (with_reducible rfl)
          try simp only [Act.put, List.setIfInBounds_toArray, List.set_cons_zero, List.set_cons_succ]
          refine wpAnyT_take (i := 13) (oi := { dst := some 141, op := Op.move (Operand.tmp 140), type := 4, pos := "laws.go:393", after := #[{ on := 12, ground := Ground.data }, { on := 8, ground := Ground.chain }], guard := none }) (v := ?_) rfl (by kernel_rfl) (fun _ _ _ h => h) (Or.inl ⟨by rfl, ?_⟩) (by assumption) ?_
          rotate_left 1
          · intro w hSw; (try dsimp only at hSw); go_simp; try (with_reducible rfl)
          try simp only [Act.put, List.setIfInBounds_toArray, List.set_cons_zero, List.set_cons_succ]
          refine wpAnyT_take (i := 14) (oi := { dst := some 142, op := Op.load 26 (Operand.tmp 3), type := 26, pos := "laws.go:393", after := #[{ on := 13, ground := Ground.guard }], guard := some (13, true) }) (v := ?_) rfl (by kernel_rfl) (fun _ _ _ h => h) (Or.inl ⟨by rfl, ?_⟩) (by assumption) ?_
          rotate_left 1
          · intro w hSw; (try dsimp only at hSw); go_simp; try (with_reducible rfl)
          try simp only [Act.put, List.setIfInBounds_toArray, List.set_cons_zero, List.set_cons_succ]
          refine wpAnyT_take (i := 16) (oi := { dst := some 144, op := Op.load 26 (Operand.tmp 3), type := 26, pos := "laws.go:393", after := #[{ on := 13, ground := Ground.guard }], guard := some (13, true) }) (v := ?_) rfl (by kernel_rfl) (fun _ _ _ h => h) (Or.inl ⟨by rfl, ?_⟩) (by assumption) ?_
          rotate_left 1
          · intro w hSw; (try dsimp only at hSw); go_simp; try (with_reducible rfl)
          try simp only [Act.put, List.setIfInBounds_toArray, List.set_cons_zero, List.set_cons_succ]
          refine wpAnyT_ready (rs := [15]) (by kernel_rfl) (by simp) ?_
          refine (AllReadyT.cons (o := { dst := some 143, op := Op.call { callee := Callee.value (Operand.func 26), args := #[Operand.tmp 142], argTypes := #[26] }, type := 4, pos := "laws.go:393", after := #[{ on := 14, ground := Ground.data }, { on := 13, ground := Ground.chain }, { on := 13, ground := Ground.guard }], guard := some (13, true) }) (rs := []) rfl (fun K hK => ?_) AllReadyT.nil)
          go_simp
          (refine (TM.out _ hb0).mono ?_; rintro e wv1 ⟨rfl, k⟩; have hb1 := hb0.trans (k.mono hb0.size))
          refine hK.out _ _ ?_ (fun hHeld => ?_)
          · exact Cell.out _ hb1
          clear hK K
          try simp only [Act.put, List.setIfInBounds_toArray, List.set_cons_zero, List.set_cons_succ]
          refine wpAnyT_ready (rs := [17]) (by kernel_rfl) (by simp) ?_
          refine (AllReadyT.cons (o := { dst := some 145, op := Op.call { callee := Callee.value (Operand.func 27), args := #[Operand.tmp 144], argTypes := #[26] }, type := 4, pos := "laws.go:393", after := #[{ on := 16, ground := Ground.data }, { on := 15, ground := Ground.chain }, { on := 13, ground := Ground.guard }], guard := some (13, true) }) (rs := []) rfl (fun K hK => ?_) AllReadyT.nil)
          go_simp
          (refine (VG.out _ hb1).mono ?_; rintro e wv2 ⟨rfl, k⟩; have hb2 := hb1.trans (k.mono hb1.size))
          refine hK.out _ _ ?_ (fun hHeld => ?_)
          · exact Cell.out _ hb2
          clear hK K
          try simp only [Act.put, List.setIfInBounds_toArray, List.set_cons_zero, List.set_cons_succ]
          refine wpAnyT_take (i := 18) (oi := { dst := some 146, op := Op.move (Operand.tmp 145), type := 4, pos := "laws.go:393", after := #[{ on := 17, ground := Ground.data }, { on := 17, ground := Ground.chain }, { on := 13, ground := Ground.guard }], guard := some (13, true) }) (v := ?_) rfl (by kernel_rfl) (fun _ _ _ h => h) (Or.inl ⟨by rfl, ?_⟩) (by assumption) ?_
          rotate_left 1
          · intro w hSw; (try dsimp only at hSw); go_simp; try (with_reducible rfl)
          try simp only [Act.put, List.setIfInBounds_toArray, List.set_cons_zero, List.set_cons_succ]
          refine wpAnyT_take (i := 19) (oi := { dst := some 147, op := Op.move (Operand.tmp 12), type := 4, pos := "laws.go:393", after := #[{ on := 18, ground := Ground.guard }], guard := some (18, true) }) (v := ?_) rfl (by kernel_rfl) (fun _ _ _ h => h) (Or.inl ⟨by rfl, ?_⟩) (by assumption) ?_
          rotate_left 1
          · intro w hSw; (try dsimp only at hSw); go_simp; try (with_reducible rfl)
          try simp only [Act.put, List.setIfInBounds_toArray, List.set_cons_zero, List.set_cons_succ]
          refine wpAnyT_take (i := 20) (oi := { dst := some 148, op := Op.unOp UnOp.not 4 (Operand.tmp 147), type := 4, pos := "laws.go:393", after := #[{ on := 19, ground := Ground.data }, { on := 18, ground := Ground.guard }], guard := some (18, true) }) (v := ?_) rfl (by kernel_rfl) (fun _ _ _ h => h) (Or.inl ⟨by rfl, ?_⟩) (by assumption) ?_
          rotate_left 1
          · intro w hSw; (try dsimp only at hSw); go_simp; try (with_reducible rfl)
          try simp only [Act.put, List.setIfInBounds_toArray, List.set_cons_zero, List.set_cons_succ]
          refine wpAnyT_take (i := 21) (oi := { dst := some 149, op := Op.pick (Operand.tmp 146) (Operand.tmp 148) (Operand.const (Value.bool false)), type := 4, pos := "laws.go:393", after := #[{ on := 18, ground := Ground.data }, { on := 20, ground := Ground.data }, { on := 13, ground := Ground.guard }], guard := some (13, true) }) (v := ?_) rfl (by kernel_rfl) (fun _ _ _ h => h) (Or.inl ⟨by rfl, ?_⟩) (by assumption) ?_
          rotate_left 1
          · intro w hSw; (try dsimp only at hSw); go_simp; try (with_reducible rfl)
          try simp only [Act.put, List.setIfInBounds_toArray, List.set_cons_zero, List.set_cons_succ]
          refine wpAnyT_take (i := 22) (oi := { dst := some 150, op := Op.binOp BinOp.eql 4 (Operand.tmp 143) (Operand.tmp 149) 4, type := 4, pos := "laws.go:393", after := #[{ on := 15, ground := Ground.data }, { on := 21, ground := Ground.data }, { on := 13, ground := Ground.guard }], guard := some (13, true) }) (v := ?_) rfl (by kernel_rfl) (fun _ _ _ h => h) (Or.inl ⟨by rfl, ?_⟩) (by assumption) ?_
          rotate_left 1
          · intro w hSw; (try dsimp only at hSw); go_simp; try (with_reducible rfl)
          try simp only [Act.put, List.setIfInBounds_toArray, List.set_cons_zero, List.set_cons_succ]
          refine wpAnyT_take (i := 23) (oi := { dst := some 151, op := Op.pick (Operand.tmp 141) (Operand.tmp 150) (Operand.const (Value.bool false)), type := 4, pos := "laws.go:393", after := #[{ on := 13, ground := Ground.data }, { on := 22, ground := Ground.data }], guard := none }) (v := ?_) rfl (by kernel_rfl) (fun _ _ _ h => h) (Or.inl ⟨by rfl, ?_⟩) (by assumption) ?_
          rotate_left 1
          · intro w hSw; (try dsimp only at hSw); go_simp; try (with_reducible rfl)
          try simp only [Act.put, List.setIfInBounds_toArray, List.set_cons_zero, List.set_cons_succ]
          refine wpAnyT_take (i := 24) (oi := { dst := some 152, op := Op.move (Operand.tmp 151), type := 4, pos := "laws.go:393", after := #[{ on := 23, ground := Ground.data }, { on := 18, ground := Ground.chain }], guard := none }) (v := ?_) rfl (by kernel_rfl) (fun _ _ _ h => h) (Or.inl ⟨by rfl, ?_⟩) (by assumption) ?_
          rotate_left 1
          · intro w hSw; (try dsimp only at hSw); go_simp; try (with_reducible rfl)
          try simp only [Act.put, List.setIfInBounds_toArray, List.set_cons_zero, List.set_cons_succ]
          refine wpAnyT_take (i := 25) (oi := { dst := some 153, op := Op.load 26 (Operand.tmp 3), type := 26, pos := "laws.go:393", after := #[{ on := 24, ground := Ground.guard }], guard := some (24, true) }) (v := ?_) rfl (by kernel_rfl) (fun _ _ _ h => h) (Or.inl ⟨by rfl, ?_⟩) (by assumption) ?_
          rotate_left 1
          · intro w hSw; (try dsimp only at hSw); go_simp; try (with_reducible rfl)
          try simp only [Act.put, List.setIfInBounds_toArray, List.set_cons_zero, List.set_cons_succ]
          refine wpAnyT_take (i := 27) (oi := { dst := some 155, op := Op.load 26 (Operand.tmp 3), type := 26, pos := "laws.go:393", after := #[{ on := 24, ground := Ground.guard }], guard := some (24, true) }) (v := ?_) rfl (by kernel_rfl) (fun _ _ _ h => h) (Or.inl ⟨by rfl, ?_⟩) (by assumption) ?_
          rotate_left 1
          · intro w hSw; (try dsimp only at hSw); go_simp; try (with_reducible rfl)
          try simp only [Act.put, List.setIfInBounds_toArray, List.set_cons_zero, List.set_cons_succ]
          refine wpAnyT_ready (rs := [26]) (by kernel_rfl) (by simp) ?_
          refine (AllReadyT.cons (o := { dst := some 154, op := Op.call { callee := Callee.value (Operand.func 17), args := #[Operand.tmp 153], argTypes := #[26] }, type := 4, pos := "laws.go:393", after := #[{ on := 25, ground := Ground.data }, { on := 24, ground := Ground.chain }, { on := 24, ground := Ground.guard }], guard := some (24, true) }) (rs := []) rfl (fun K hK => ?_) AllReadyT.nil)
          go_simp
          (refine (TS.out _ hb2).mono ?_; rintro e wv3 ⟨rfl, k⟩; have hb3 := hb2.trans (k.mono hb2.size))
          refine hK.out _ _ ?_ (fun hHeld => ?_)
          · exact Cell.out _ hb3
          clear hK K
          try simp only [Act.put, List.setIfInBounds_toArray, List.set_cons_zero, List.set_cons_succ]
          refine wpAnyT_ready (rs := [28]) (by kernel_rfl) (by simp) ?_
          refine (AllReadyT.cons (o := { dst := some 156, op := Op.call { callee := Callee.value (Operand.func 27), args := #[Operand.tmp 155], argTypes := #[26] }, type := 4, pos := "laws.go:393", after := #[{ on := 27, ground := Ground.data }, { on := 26, ground := Ground.chain }, { on := 24, ground := Ground.guard }], guard := some (24, true) }) (rs := []) rfl (fun K hK => ?_) AllReadyT.nil)
          go_simp
          (refine (VG.out _ hb3).mono ?_; rintro e wv4 ⟨rfl, k⟩; have hb4 := hb3.trans (k.mono hb3.size))
          refine hK.out _ _ ?_ (fun hHeld => ?_)
          · exact Cell.out _ hb4
          clear hK K
          try simp only [Act.put, List.setIfInBounds_toArray, List.set_cons_zero, List.set_cons_succ]
          refine wpAnyT_take (i := 29) (oi := { dst := some 157, op := Op.move (Operand.tmp 156), type := 4, pos := "laws.go:393", after := #[{ on := 28, ground := Ground.data }, { on := 28, ground := Ground.chain }, { on := 24, ground := Ground.guard }], guard := some (24, true) }) (v := ?_) rfl (by kernel_rfl) (fun _ _ _ h => h) (Or.inl ⟨by rfl, ?_⟩) (by assumption) ?_
          rotate_left 1
          · intro w hSw; (try dsimp only at hSw); go_simp; try (with_reducible rfl)
          try simp only [Act.put, List.setIfInBounds_toArray, List.set_cons_zero, List.set_cons_succ]
          refine wpAnyT_take (i := 30) (oi := { dst := some 158, op := Op.move (Operand.tmp 18), type := 4, pos := "laws.go:393", after := #[{ on := 29, ground := Ground.guard }], guard := some (29, true) }) (v := ?_) rfl (by kernel_rfl) (fun _ _ _ h => h) (Or.inl ⟨by rfl, ?_⟩) (by assumption) ?_
          rotate_left 1
          · intro w hSw; (try dsimp only at hSw); go_simp; try (with_reducible rfl)
          try simp only [Act.put, List.setIfInBounds_toArray, List.set_cons_zero, List.set_cons_succ]
          refine wpAnyT_take (i := 31) (oi := { dst := some 159, op := Op.unOp UnOp.not 4 (Operand.tmp 158), type := 4, pos := "laws.go:393", after := #[{ on := 30, ground := Ground.data }, { on := 29, ground := Ground.guard }], guard := some (29, true) }) (v := ?_) rfl (by kernel_rfl) (fun _ _ _ h => h) (Or.inl ⟨by rfl, ?_⟩) (by assumption) ?_
          rotate_left 1
          · intro w hSw; (try dsimp only at hSw); go_simp; try (with_reducible rfl)
          try simp only [Act.put, List.setIfInBounds_toArray, List.set_cons_zero, List.set_cons_succ]
          refine wpAnyT_take (i := 32) (oi := { dst := some 160, op := Op.pick (Operand.tmp 157) (Operand.tmp 159) (Operand.const (Value.bool false)), type := 4, pos := "laws.go:393", after := #[{ on := 29, ground := Ground.data }, { on := 31, ground := Ground.data }, { on := 24, ground := Ground.guard }], guard := some (24, true) }) (v := ?_) rfl (by kernel_rfl) (fun _ _ _ h => h) (Or.inl ⟨by rfl, ?_⟩) (by assumption) ?_
          rotate_left 1
          · intro w hSw; (try dsimp only at hSw); go_simp; try (with_reducible rfl)
          try simp only [Act.put, List.setIfInBounds_toArray, List.set_cons_zero, List.set_cons_succ]
          refine wpAnyT_take (i := 33) (oi := { dst := some 161, op := Op.binOp BinOp.eql 4 (Operand.tmp 154) (Operand.tmp 160) 4, type := 4, pos := "laws.go:393", after := #[{ on := 26, ground := Ground.data }, { on := 32, ground := Ground.data }, { on := 24, ground := Ground.guard }], guard := some (24, true) }) (v := ?_) rfl (by kernel_rfl) (fun _ _ _ h => h) (Or.inl ⟨by rfl, ?_⟩) (by assumption) ?_
          rotate_left 1
          · intro w hSw; (try dsimp only at hSw); go_simp; try (with_reducible rfl)
          try simp only [Act.put, List.setIfInBounds_toArray, List.set_cons_zero, List.set_cons_succ]
          refine wpAnyT_take (i := 34) (oi := { dst := some 162, op := Op.pick (Operand.tmp 152) (Operand.tmp 161) (Operand.const (Value.bool false)), type := 4, pos := "laws.go:393", after := #[{ on := 24, ground := Ground.data }, { on := 33, ground := Ground.data }], guard := none }) (v := ?_) rfl (by kernel_rfl) (fun _ _ _ h => h) (Or.inl ⟨by rfl, ?_⟩) (by assumption) ?_
          rotate_left 1
          · intro w hSw; (try dsimp only at hSw); go_simp; try (with_reducible rfl)
          try simp only [Act.put, List.setIfInBounds_toArray, List.set_cons_zero, List.set_cons_succ]
          refine wpAnyT_ready (rs := [35]) (by kernel_rfl) (by simp) ?_
          refine (AllReadyT.last (o := { dst := some 2, op := Op.assign (Operand.tmp 162), type := 4, pos := "laws.go:393", after := #[{ on := 34, ground := Ground.data }, { on := 29, ground := Ground.chain }, { on := 0, ground := Ground.phase }, { on := 1, ground := Ground.phase }, { on := 2, ground := Ground.phase }, { on := 3, ground := Ground.phase }, { on := 4, ground := Ground.phase }, { on := 5, ground := Ground.phase }, { on := 6, ground := Ground.phase }, { on := 7, ground := Ground.phase }, { on := 8, ground := Ground.phase }, { on := 9, ground := Ground.phase }, { on := 10, ground := Ground.phase }, { on := 11, ground := Ground.phase }, { on := 12, ground := Ground.phase }, { on := 13, ground := Ground.phase }, { on := 14, ground := Ground.phase }, { on := 15, ground := Ground.phase }, { on := 16, ground := Ground.phase }, { on := 17, ground := Ground.phase }, { on := 18, ground := Ground.phase }, { on := 19, ground := Ground.phase }, { on := 20, ground := Ground.phase }, { on := 21, ground := Ground.phase }, { on := 22, ground := Ground.phase }, { on := 23, ground := Ground.phase }, { on := 24, ground := Ground.phase }, { on := 25, ground := Ground.phase }, { on := 26, ground := Ground.phase }, { on := 27, ground := Ground.phase }, { on := 28, ground := Ground.phase }, { on := 29, ground := Ground.phase }, { on := 30, ground := Ground.phase }, { on := 31, ground := Ground.phase }, { on := 32, ground := Ground.phase }, { on := 33, ground := Ground.phase }, { on := 34, ground := Ground.phase }], guard := none }) (rs := []) rfl (by rfl) (fun K hK => ?_) AllReadyT.nil)
          go_simp
          refine hK.out _ _ ?_
          clear hK K
          try simp only [Act.put, List.setIfInBounds_toArray, List.set_cons_zero, List.set_cons_succ]
          refine wpAnyT_done (by kernel_rfl) ?_ _
          go_wp2_with fail
          go_ret
          exact ⟨rfl, HB.out.trans (hb4.mono hle)⟩
        · rw [show (true && !false) = true from rfl] at TC
          rw [show (true && !true) = false from rfl] at TM
          rw [show (true && !false) = true from rfl] at TS
          refine (IC.out _ HBW.out).mono ?_
          rintro e w11 ⟨rfl, k⟩
          replace HBW := Lib.hid (HBW.out.trans (k.mono HBW.out.size))
          obtain ⟨m0, m1, -⟩ := Cell.out _ HBW.out
          clear k
          go_wp2_with fail
          refine (SC.out _ HBW.out).mono ?_
          rintro e w12 ⟨rfl, k⟩
          replace HBW := Lib.hid (HBW.out.trans (k.mono HBW.out.size))
          obtain ⟨m0, m1, -⟩ := Cell.out _ HBW.out
          clear k
          go_wp2_with fail
          refine (TC.out _ HBW.out).mono ?_
          rintro e w13 ⟨rfl, k⟩
          replace HBW := Lib.hid (HBW.out.trans (k.mono HBW.out.size))
          obtain ⟨m0, m1, -⟩ := Cell.out _ HBW.out
          clear k
          go_wp2_with fail
          refine (TS.out _ HBW.out).mono ?_
          rintro e w14 ⟨rfl, k⟩
          replace HBW := Lib.hid (HBW.out.trans (k.mono HBW.out.size))
          obtain ⟨m0, m1, -⟩ := Cell.out _ HBW.out
          clear k
          go_upto_region 8 with fail
          have hb0 := HBW.out.drew
          refine wp_region_T_drew (S := (fun w' => w'.cell? ⟨q, 0, none⟩ = some x ∧ w'.cell? ⟨q, 1, none⟩ = some v ∧ Below W.heap.size W w')) 21 (by kernel_rfl) ?_ (fun hHeld => ?_)
          · exact Cell.out _ hb0
          refine wpAnyT_take (i := 0) (oi := { dst := some 60, op := Op.move (Operand.tmp 6), type := 4, pos := "laws.go:383", after := #[], guard := none }) (v := ?_) rfl (by kernel_rfl) (fun _ _ _ h => h) (Or.inl ⟨by rfl, ?_⟩) (by assumption) ?_
          rotate_left 1
          · intro w hSw; (try dsimp only at hSw); go_simp; try (with_reducible rfl)
          try simp only [Act.put, List.setIfInBounds_toArray, List.set_cons_zero, List.set_cons_succ]
          refine wpAnyT_take (i := 1) (oi := { dst := some 61, op := Op.move (Operand.tmp 60), type := 4, pos := "laws.go:383", after := #[{ on := 0, ground := Ground.data }], guard := none }) (v := ?_) rfl (by kernel_rfl) (fun _ _ _ h => h) (Or.inl ⟨by rfl, ?_⟩) (by assumption) ?_
          rotate_left 1
          · intro w hSw; (try dsimp only at hSw); go_simp; try (with_reducible rfl)
          try simp only [Act.put, List.setIfInBounds_toArray, List.set_cons_zero, List.set_cons_succ]
          refine wpAnyT_take (i := 2) (oi := { dst := some 62, op := Op.load 26 (Operand.tmp 3), type := 26, pos := "laws.go:383", after := #[{ on := 1, ground := Ground.guard }], guard := some (1, true) }) (v := undef) rfl (by kernel_rfl) (fun _ _ _ h => h) (Or.inr ⟨by rfl, rfl⟩) (by assumption) ?_
          try simp only [Act.put, List.setIfInBounds_toArray, List.set_cons_zero, List.set_cons_succ]
          refine wpAnyT_take (i := 3) (oi := { dst := some 63, op := Op.move (Operand.tmp 4), type := 3, pos := "laws.go:383", after := #[{ on := 1, ground := Ground.guard }], guard := some (1, true) }) (v := undef) rfl (by kernel_rfl) (fun _ _ _ h => h) (Or.inr ⟨by rfl, rfl⟩) (by assumption) ?_
          try simp only [Act.put, List.setIfInBounds_toArray, List.set_cons_zero, List.set_cons_succ]
          refine wpAnyT_take (i := 4) (oi := { dst := some 64, op := Op.call { callee := Callee.value (Operand.func 18), args := #[Operand.tmp 62, Operand.tmp 63], argTypes := #[26, 3] }, type := 3, pos := "laws.go:383", after := #[{ on := 2, ground := Ground.data }, { on := 3, ground := Ground.data }, { on := 1, ground := Ground.chain }, { on := 1, ground := Ground.guard }], guard := some (1, true) }) (v := undef) rfl (by kernel_rfl) (fun _ _ _ h => h) (Or.inr ⟨by rfl, rfl⟩) (by assumption) ?_
          try simp only [Act.put, List.setIfInBounds_toArray, List.set_cons_zero, List.set_cons_succ]
          refine wpAnyT_take (i := 5) (oi := { dst := some 65, op := Op.load 26 (Operand.tmp 3), type := 26, pos := "laws.go:383", after := #[{ on := 1, ground := Ground.guard }], guard := some (1, true) }) (v := undef) rfl (by kernel_rfl) (fun _ _ _ h => h) (Or.inr ⟨by rfl, rfl⟩) (by assumption) ?_
          try simp only [Act.put, List.setIfInBounds_toArray, List.set_cons_zero, List.set_cons_succ]
          refine wpAnyT_take (i := 6) (oi := { dst := some 66, op := Op.move (Operand.tmp 5), type := 3, pos := "laws.go:383", after := #[{ on := 1, ground := Ground.guard }], guard := some (1, true) }) (v := undef) rfl (by kernel_rfl) (fun _ _ _ h => h) (Or.inr ⟨by rfl, rfl⟩) (by assumption) ?_
          try simp only [Act.put, List.setIfInBounds_toArray, List.set_cons_zero, List.set_cons_succ]
          refine wpAnyT_take (i := 7) (oi := { dst := some 67, op := Op.call { callee := Callee.value (Operand.func 18), args := #[Operand.tmp 65, Operand.tmp 66], argTypes := #[26, 3] }, type := 3, pos := "laws.go:383", after := #[{ on := 5, ground := Ground.data }, { on := 6, ground := Ground.data }, { on := 4, ground := Ground.chain }, { on := 1, ground := Ground.guard }], guard := some (1, true) }) (v := undef) rfl (by kernel_rfl) (fun _ _ _ h => h) (Or.inr ⟨by rfl, rfl⟩) (by assumption) ?_
          try simp only [Act.put, List.setIfInBounds_toArray, List.set_cons_zero, List.set_cons_succ]
          refine wpAnyT_take (i := 8) (oi := { dst := some 68, op := Op.binOp BinOp.add 3 (Operand.tmp 64) (Operand.tmp 67) 3, type := 3, pos := "laws.go:383", after := #[{ on := 4, ground := Ground.data }, { on := 7, ground := Ground.data }, { on := 1, ground := Ground.guard }], guard := some (1, true) }) (v := undef) rfl (by kernel_rfl) (fun _ _ _ h => h) (Or.inr ⟨by rfl, rfl⟩) (by assumption) ?_
          try simp only [Act.put, List.setIfInBounds_toArray, List.set_cons_zero, List.set_cons_succ]
          refine wpAnyT_take (i := 9) (oi := { dst := some 69, op := Op.load 26 (Operand.tmp 3), type := 26, pos := "laws.go:383", after := #[{ on := 1, ground := Ground.guard }], guard := some (1, true) }) (v := undef) rfl (by kernel_rfl) (fun _ _ _ h => h) (Or.inr ⟨by rfl, rfl⟩) (by assumption) ?_
          try simp only [Act.put, List.setIfInBounds_toArray, List.set_cons_zero, List.set_cons_succ]
          refine wpAnyT_take (i := 10) (oi := { dst := some 70, op := Op.move (Operand.tmp 4), type := 3, pos := "laws.go:383", after := #[{ on := 1, ground := Ground.guard }], guard := some (1, true) }) (v := undef) rfl (by kernel_rfl) (fun _ _ _ h => h) (Or.inr ⟨by rfl, rfl⟩) (by assumption) ?_
          try simp only [Act.put, List.setIfInBounds_toArray, List.set_cons_zero, List.set_cons_succ]
          refine wpAnyT_take (i := 11) (oi := { dst := some 71, op := Op.move (Operand.tmp 5), type := 3, pos := "laws.go:383", after := #[{ on := 1, ground := Ground.guard }], guard := some (1, true) }) (v := undef) rfl (by kernel_rfl) (fun _ _ _ h => h) (Or.inr ⟨by rfl, rfl⟩) (by assumption) ?_
          try simp only [Act.put, List.setIfInBounds_toArray, List.set_cons_zero, List.set_cons_succ]
          refine wpAnyT_take (i := 12) (oi := { dst := some 72, op := Op.call { callee := Callee.value (Operand.func 19), args := #[Operand.tmp 70, Operand.tmp 71], argTypes := #[3, 3] }, type := 3, pos := "laws.go:383", after := #[{ on := 10, ground := Ground.data }, { on := 11, ground := Ground.data }, { on := 7, ground := Ground.chain }, { on := 1, ground := Ground.guard }], guard := some (1, true) }) (v := undef) rfl (by kernel_rfl) (fun _ _ _ h => h) (Or.inr ⟨by rfl, rfl⟩) (by assumption) ?_
          try simp only [Act.put, List.setIfInBounds_toArray, List.set_cons_zero, List.set_cons_succ]
          refine wpAnyT_take (i := 13) (oi := { dst := some 73, op := Op.call { callee := Callee.value (Operand.func 18), args := #[Operand.tmp 69, Operand.tmp 72], argTypes := #[26, 3] }, type := 3, pos := "laws.go:383", after := #[{ on := 9, ground := Ground.data }, { on := 12, ground := Ground.data }, { on := 12, ground := Ground.chain }, { on := 1, ground := Ground.guard }], guard := some (1, true) }) (v := undef) rfl (by kernel_rfl) (fun _ _ _ h => h) (Or.inr ⟨by rfl, rfl⟩) (by assumption) ?_
          try simp only [Act.put, List.setIfInBounds_toArray, List.set_cons_zero, List.set_cons_succ]
          refine wpAnyT_take (i := 14) (oi := { dst := some 74, op := Op.load 26 (Operand.tmp 3), type := 26, pos := "laws.go:383", after := #[{ on := 1, ground := Ground.guard }], guard := some (1, true) }) (v := undef) rfl (by kernel_rfl) (fun _ _ _ h => h) (Or.inr ⟨by rfl, rfl⟩) (by assumption) ?_
          try simp only [Act.put, List.setIfInBounds_toArray, List.set_cons_zero, List.set_cons_succ]
          refine wpAnyT_take (i := 15) (oi := { dst := some 75, op := Op.move (Operand.tmp 4), type := 3, pos := "laws.go:383", after := #[{ on := 1, ground := Ground.guard }], guard := some (1, true) }) (v := undef) rfl (by kernel_rfl) (fun _ _ _ h => h) (Or.inr ⟨by rfl, rfl⟩) (by assumption) ?_
          try simp only [Act.put, List.setIfInBounds_toArray, List.set_cons_zero, List.set_cons_succ]
          refine wpAnyT_take (i := 16) (oi := { dst := some 76, op := Op.move (Operand.tmp 5), type := 3, pos := "laws.go:383", after := #[{ on := 1, ground := Ground.guard }], guard := some (1, true) }) (v := undef) rfl (by kernel_rfl) (fun _ _ _ h => h) (Or.inr ⟨by rfl, rfl⟩) (by assumption) ?_
          try simp only [Act.put, List.setIfInBounds_toArray, List.set_cons_zero, List.set_cons_succ]
          refine wpAnyT_take (i := 17) (oi := { dst := some 77, op := Op.call { callee := Callee.value (Operand.func 20), args := #[Operand.tmp 75, Operand.tmp 76], argTypes := #[3, 3] }, type := 3, pos := "laws.go:383", after := #[{ on := 15, ground := Ground.data }, { on := 16, ground := Ground.data }, { on := 13, ground := Ground.chain }, { on := 1, ground := Ground.guard }], guard := some (1, true) }) (v := undef) rfl (by kernel_rfl) (fun _ _ _ h => h) (Or.inr ⟨by rfl, rfl⟩) (by assumption) ?_
          try simp only [Act.put, List.setIfInBounds_toArray, List.set_cons_zero, List.set_cons_succ]
          refine wpAnyT_take (i := 18) (oi := { dst := some 78, op := Op.call { callee := Callee.value (Operand.func 18), args := #[Operand.tmp 74, Operand.tmp 77], argTypes := #[26, 3] }, type := 3, pos := "laws.go:383", after := #[{ on := 14, ground := Ground.data }, { on := 17, ground := Ground.data }, { on := 17, ground := Ground.chain }, { on := 1, ground := Ground.guard }], guard := some (1, true) }) (v := undef) rfl (by kernel_rfl) (fun _ _ _ h => h) (Or.inr ⟨by rfl, rfl⟩) (by assumption) ?_
          try simp only [Act.put, List.setIfInBounds_toArray, List.set_cons_zero, List.set_cons_succ]
          refine wpAnyT_take (i := 19) (oi := { dst := some 79, op := Op.binOp BinOp.add 3 (Operand.tmp 73) (Operand.tmp 78) 3, type := 3, pos := "laws.go:383", after := #[{ on := 13, ground := Ground.data }, { on := 18, ground := Ground.data }, { on := 1, ground := Ground.guard }], guard := some (1, true) }) (v := undef) rfl (by kernel_rfl) (fun _ _ _ h => h) (Or.inr ⟨by rfl, rfl⟩) (by assumption) ?_
          try simp only [Act.put, List.setIfInBounds_toArray, List.set_cons_zero, List.set_cons_succ]
          refine wpAnyT_take (i := 20) (oi := { dst := some 80, op := Op.binOp BinOp.leq 3 (Operand.tmp 68) (Operand.tmp 79) 3, type := 4, pos := "laws.go:383", after := #[{ on := 8, ground := Ground.data }, { on := 19, ground := Ground.data }, { on := 1, ground := Ground.guard }], guard := some (1, true) }) (v := undef) rfl (by kernel_rfl) (fun _ _ _ h => h) (Or.inr ⟨by rfl, rfl⟩) (by assumption) ?_
          try simp only [Act.put, List.setIfInBounds_toArray, List.set_cons_zero, List.set_cons_succ]
          refine wpAnyT_ready (rs := [21]) (by kernel_rfl) (by simp) ?_
          refine (AllReadyT.last (o := { dst := some 81, op := Op.pick (Operand.tmp 61) (Operand.tmp 80) (Operand.const (Value.bool false)), type := 4, pos := "laws.go:383", after := #[{ on := 1, ground := Ground.data }, { on := 20, ground := Ground.data }], guard := none }) (rs := []) rfl (by rfl) (fun K hK => ?_) AllReadyT.nil)
          go_simp
          refine hK.out _ _ ?_
          clear hK K
          try simp only [Act.put, List.setIfInBounds_toArray, List.set_cons_zero, List.set_cons_succ]
          refine wpAnyT_done (by kernel_rfl) ?_ _
          replace HBW := Lib.hid hb0
          obtain ⟨m0, m1, -⟩ := Cell.out _ HBW.out
          go_wp2_with fail
          refine (IM.out _ HBW.out).mono ?_
          rintro e w15 ⟨rfl, k⟩
          replace HBW := Lib.hid (HBW.out.trans (k.mono HBW.out.size))
          obtain ⟨m0, m1, -⟩ := Cell.out _ HBW.out
          clear k
          go_wp2_with fail
          refine (SM.out _ HBW.out).mono ?_
          rintro e w16 ⟨rfl, k⟩
          replace HBW := Lib.hid (HBW.out.trans (k.mono HBW.out.size))
          obtain ⟨m0, m1, -⟩ := Cell.out _ HBW.out
          clear k
          obtain ⟨hv, e0, f0, rfl, rfl, ha, hb, hok⟩ := Pr.fault_pair HMM.out
          have hsub : Co.sub (e0 : Int) (f0 : Int) 5 = true := by
            unfold Pr.okM at hok
            rcases hs : Co.sub (e0 : Int) (f0 : Int) 5 with _ | _
            · rw [hs] at hok; simp at hok
            · rfl
          have HSb := Lib.hid (impl_IsSubset (e0 : Int) (f0 : Int) (Pr.good_at hv ha) (Pr.good_at hv hb) true hsub)
          clear hv ha hb hok hsub
          go_wp2_with fail
          refine (HSb.out _).mono ?_
          rintro e ws ⟨rfl, rfl⟩
          go_wp2_with fail
          refine (IS.out _ HBW.out).mono ?_
          rintro e w17 ⟨rfl, k⟩
          replace HBW := Lib.hid (HBW.out.trans (k.mono HBW.out.size))
          obtain ⟨m0, m1, -⟩ := Cell.out _ HBW.out
          clear k
          go_wp2_with fail
          refine (SS.out _ HBW.out).mono ?_
          rintro e w18 ⟨rfl, k⟩
          replace HBW := Lib.hid (HBW.out.trans (k.mono HBW.out.size))
          obtain ⟨m0, m1, -⟩ := Cell.out _ HBW.out
          clear k
          go_upto_region 16 with fail
          have hb0 := HBW.out.drew
          refine wp_region_T_drew (S := (fun w' => w'.cell? ⟨q, 0, none⟩ = some x ∧ w'.cell? ⟨q, 1, none⟩ = some v ∧ Below W.heap.size W w')) 35 (by kernel_rfl) ?_ (fun hHeld => ?_)
          · exact Cell.out _ hb0
          refine wpAnyT_take (i := 0) (oi := { dst := some 128, op := Op.move (Operand.tmp 16), type := 3, pos := "laws.go:393", after := #[], guard := none }) (v := ?_) rfl (by kernel_rfl) (fun _ _ _ h => h) (Or.inl ⟨by rfl, ?_⟩) (by assumption) ?_
          rotate_left 1
          · intro w hSw; (try dsimp only at hSw); go_simp; try (with_reducible rfl)
          try simp only [Act.put, List.setIfInBounds_toArray, List.set_cons_zero, List.set_cons_succ]
          refine wpAnyT_take (i := 1) (oi := { dst := some 129, op := Op.move (Operand.tmp 19), type := 3, pos := "laws.go:393", after := #[], guard := none }) (v := ?_) rfl (by kernel_rfl) (fun _ _ _ h => h) (Or.inl ⟨by rfl, ?_⟩) (by assumption) ?_
          rotate_left 1
          · intro w hSw; (try dsimp only at hSw); go_simp; try (with_reducible rfl)
          try simp only [Act.put, List.setIfInBounds_toArray, List.set_cons_zero, List.set_cons_succ]
          refine wpAnyT_take (i := 2) (oi := { dst := some 130, op := Op.binOp BinOp.eql 3 (Operand.tmp 128) (Operand.tmp 129) 3, type := 4, pos := "laws.go:393", after := #[{ on := 0, ground := Ground.data }, { on := 1, ground := Ground.data }], guard := none }) (v := ?_) rfl (by kernel_rfl) (fun _ _ _ h => h) (Or.inl ⟨by rfl, ?_⟩) (by assumption) ?_
          rotate_left 1
          · intro w hSw; (try dsimp only at hSw); go_simp; try (with_reducible rfl)
          try simp only [Act.put, List.setIfInBounds_toArray, List.set_cons_zero, List.set_cons_succ]
          refine wpAnyT_take (i := 3) (oi := { dst := some 131, op := Op.move (Operand.tmp 130), type := 4, pos := "laws.go:393", after := #[{ on := 2, ground := Ground.data }], guard := none }) (v := ?_) rfl (by kernel_rfl) (fun _ _ _ h => h) (Or.inl ⟨by rfl, ?_⟩) (by assumption) ?_
          rotate_left 1
          · intro w hSw; (try dsimp only at hSw); go_simp; try (with_reducible rfl)
          try simp only [Act.put, List.setIfInBounds_toArray, List.set_cons_zero, List.set_cons_succ]
          refine wpAnyT_take (i := 4) (oi := { dst := some 132, op := Op.move (Operand.tmp 17), type := 3, pos := "laws.go:393", after := #[{ on := 3, ground := Ground.guard }], guard := some (3, true) }) (v := ?_) rfl (by kernel_rfl) (fun _ _ _ h => h) (Or.inl ⟨by rfl, ?_⟩) (by assumption) ?_
          rotate_left 1
          · intro w hSw; (try dsimp only at hSw); go_simp; try (with_reducible rfl)
          try simp only [Act.put, List.setIfInBounds_toArray, List.set_cons_zero, List.set_cons_succ]
          refine wpAnyT_take (i := 5) (oi := { dst := some 133, op := Op.move (Operand.tmp 20), type := 3, pos := "laws.go:393", after := #[{ on := 3, ground := Ground.guard }], guard := some (3, true) }) (v := ?_) rfl (by kernel_rfl) (fun _ _ _ h => h) (Or.inl ⟨by rfl, ?_⟩) (by assumption) ?_
          rotate_left 1
          · intro w hSw; (try dsimp only at hSw); go_simp; try (with_reducible rfl)
          try simp only [Act.put, List.setIfInBounds_toArray, List.set_cons_zero, List.set_cons_succ]
          refine wpAnyT_take (i := 6) (oi := { dst := some 134, op := Op.binOp BinOp.eql 3 (Operand.tmp 132) (Operand.tmp 133) 3, type := 4, pos := "laws.go:393", after := #[{ on := 4, ground := Ground.data }, { on := 5, ground := Ground.data }, { on := 3, ground := Ground.guard }], guard := some (3, true) }) (v := ?_) rfl (by kernel_rfl) (fun _ _ _ h => h) (Or.inl ⟨by rfl, ?_⟩) (by assumption) ?_
          rotate_left 1
          · intro w hSw; (try dsimp only at hSw); go_simp; try (with_reducible rfl)
          try simp only [Act.put, List.setIfInBounds_toArray, List.set_cons_zero, List.set_cons_succ]
          refine wpAnyT_take (i := 7) (oi := { dst := some 135, op := Op.pick (Operand.tmp 131) (Operand.tmp 134) (Operand.const (Value.bool false)), type := 4, pos := "laws.go:393", after := #[{ on := 3, ground := Ground.data }, { on := 6, ground := Ground.data }], guard := none }) (v := ?_) rfl (by kernel_rfl) (fun _ _ _ h => h) (Or.inl ⟨by rfl, ?_⟩) (by assumption) ?_
          rotate_left 1
          · intro w hSw; (try dsimp only at hSw); go_simp; try (with_reducible rfl)
          try simp only [Act.put, List.setIfInBounds_toArray, List.set_cons_zero, List.set_cons_succ]
          refine wpAnyT_take (i := 8) (oi := { dst := some 136, op := Op.move (Operand.tmp 135), type := 4, pos := "laws.go:393", after := #[{ on := 7, ground := Ground.data }, { on := 3, ground := Ground.chain }], guard := none }) (v := ?_) rfl (by kernel_rfl) (fun _ _ _ h => h) (Or.inl ⟨by rfl, ?_⟩) (by assumption) ?_
          rotate_left 1
          · intro w hSw; (try dsimp only at hSw); go_simp; try (with_reducible rfl)
          try simp only [Act.put, List.setIfInBounds_toArray, List.set_cons_zero, List.set_cons_succ]
          refine wpAnyT_take (i := 9) (oi := { dst := some 137, op := Op.move (Operand.tmp 18), type := 4, pos := "laws.go:393", after := #[{ on := 8, ground := Ground.guard }], guard := some (8, true) }) (v := ?_) rfl (by kernel_rfl) (fun _ _ _ h => h) (Or.inl ⟨by rfl, ?_⟩) (by assumption) ?_
          rotate_left 1
          · intro w hSw; (try dsimp only at hSw); go_simp; try (with_reducible rfl)
          try simp only [Act.put, List.setIfInBounds_toArray, List.set_cons_zero, List.set_cons_succ]
          refine wpAnyT_take (i := 10) (oi := { dst := some 138, op := Op.move (Operand.tmp 21), type := 4, pos := "laws.go:393", after := #[{ on := 8, ground := Ground.guard }], guard := some (8, true) }) (v := ?_) rfl (by kernel_rfl) (fun _ _ _ h => h) (Or.inl ⟨by rfl, ?_⟩) (by assumption) ?_
          rotate_left 1
          · intro w hSw; (try dsimp only at hSw); go_simp; try (with_reducible rfl)
          try simp only [Act.put, List.setIfInBounds_toArray, List.set_cons_zero, List.set_cons_succ]
          refine wpAnyT_take (i := 11) (oi := { dst := some 139, op := Op.binOp BinOp.eql 4 (Operand.tmp 137) (Operand.tmp 138) 4, type := 4, pos := "laws.go:393", after := #[{ on := 9, ground := Ground.data }, { on := 10, ground := Ground.data }, { on := 8, ground := Ground.guard }], guard := some (8, true) }) (v := ?_) rfl (by kernel_rfl) (fun _ _ _ h => h) (Or.inl ⟨by rfl, ?_⟩) (by assumption) ?_
          rotate_left 1
          · intro w hSw; (try dsimp only at hSw); go_simp; try (with_reducible rfl)
          try simp only [Act.put, List.setIfInBounds_toArray, List.set_cons_zero, List.set_cons_succ]
          refine wpAnyT_take (i := 12) (oi := { dst := some 140, op := Op.pick (Operand.tmp 136) (Operand.tmp 139) (Operand.const (Value.bool false)), type := 4, pos := "laws.go:393", after := #[{ on := 8, ground := Ground.data }, { on := 11, ground := Ground.data }], guard := none }) (v := ?_) rfl (by kernel_rfl) (fun _ _ _ h => h) (Or.inl ⟨by rfl, ?_⟩) (by assumption) ?_
          rotate_left 1
          · intro w hSw; (try dsimp only at hSw); go_simp; try (with_reducible rfl)
          try simp only [Act.put, List.setIfInBounds_toArray, List.set_cons_zero, List.set_cons_succ]
          refine wpAnyT_take (i := 13) (oi := { dst := some 141, op := Op.move (Operand.tmp 140), type := 4, pos := "laws.go:393", after := #[{ on := 12, ground := Ground.data }, { on := 8, ground := Ground.chain }], guard := none }) (v := ?_) rfl (by kernel_rfl) (fun _ _ _ h => h) (Or.inl ⟨by rfl, ?_⟩) (by assumption) ?_
          rotate_left 1
          · intro w hSw; (try dsimp only at hSw); go_simp; try (with_reducible rfl)
          try simp only [Act.put, List.setIfInBounds_toArray, List.set_cons_zero, List.set_cons_succ]
          refine wpAnyT_take (i := 14) (oi := { dst := some 142, op := Op.load 26 (Operand.tmp 3), type := 26, pos := "laws.go:393", after := #[{ on := 13, ground := Ground.guard }], guard := some (13, true) }) (v := ?_) rfl (by kernel_rfl) (fun _ _ _ h => h) (Or.inl ⟨by rfl, ?_⟩) (by assumption) ?_
          rotate_left 1
          · intro w hSw; (try dsimp only at hSw); go_simp; try (with_reducible rfl)
          try simp only [Act.put, List.setIfInBounds_toArray, List.set_cons_zero, List.set_cons_succ]
          refine wpAnyT_take (i := 16) (oi := { dst := some 144, op := Op.load 26 (Operand.tmp 3), type := 26, pos := "laws.go:393", after := #[{ on := 13, ground := Ground.guard }], guard := some (13, true) }) (v := ?_) rfl (by kernel_rfl) (fun _ _ _ h => h) (Or.inl ⟨by rfl, ?_⟩) (by assumption) ?_
          rotate_left 1
          · intro w hSw; (try dsimp only at hSw); go_simp; try (with_reducible rfl)
          try simp only [Act.put, List.setIfInBounds_toArray, List.set_cons_zero, List.set_cons_succ]
          refine wpAnyT_ready (rs := [15]) (by kernel_rfl) (by simp) ?_
          refine (AllReadyT.cons (o := { dst := some 143, op := Op.call { callee := Callee.value (Operand.func 26), args := #[Operand.tmp 142], argTypes := #[26] }, type := 4, pos := "laws.go:393", after := #[{ on := 14, ground := Ground.data }, { on := 13, ground := Ground.chain }, { on := 13, ground := Ground.guard }], guard := some (13, true) }) (rs := []) rfl (fun K hK => ?_) AllReadyT.nil)
          go_simp
          (refine (TM.out _ hb0).mono ?_; rintro e wv1 ⟨rfl, k⟩; have hb1 := hb0.trans (k.mono hb0.size))
          refine hK.out _ _ ?_ (fun hHeld => ?_)
          · exact Cell.out _ hb1
          clear hK K
          try simp only [Act.put, List.setIfInBounds_toArray, List.set_cons_zero, List.set_cons_succ]
          refine wpAnyT_ready (rs := [17]) (by kernel_rfl) (by simp) ?_
          refine (AllReadyT.cons (o := { dst := some 145, op := Op.call { callee := Callee.value (Operand.func 27), args := #[Operand.tmp 144], argTypes := #[26] }, type := 4, pos := "laws.go:393", after := #[{ on := 16, ground := Ground.data }, { on := 15, ground := Ground.chain }, { on := 13, ground := Ground.guard }], guard := some (13, true) }) (rs := []) rfl (fun K hK => ?_) AllReadyT.nil)
          go_simp
          (refine (VG.out _ hb1).mono ?_; rintro e wv2 ⟨rfl, k⟩; have hb2 := hb1.trans (k.mono hb1.size))
          refine hK.out _ _ ?_ (fun hHeld => ?_)
          · exact Cell.out _ hb2
          clear hK K
          try simp only [Act.put, List.setIfInBounds_toArray, List.set_cons_zero, List.set_cons_succ]
          refine wpAnyT_take (i := 18) (oi := { dst := some 146, op := Op.move (Operand.tmp 145), type := 4, pos := "laws.go:393", after := #[{ on := 17, ground := Ground.data }, { on := 17, ground := Ground.chain }, { on := 13, ground := Ground.guard }], guard := some (13, true) }) (v := ?_) rfl (by kernel_rfl) (fun _ _ _ h => h) (Or.inl ⟨by rfl, ?_⟩) (by assumption) ?_
          rotate_left 1
          · intro w hSw; (try dsimp only at hSw); go_simp; try (with_reducible rfl)
          try simp only [Act.put, List.setIfInBounds_toArray, List.set_cons_zero, List.set_cons_succ]
          refine wpAnyT_take (i := 19) (oi := { dst := some 147, op := Op.move (Operand.tmp 12), type := 4, pos := "laws.go:393", after := #[{ on := 18, ground := Ground.guard }], guard := some (18, true) }) (v := ?_) rfl (by kernel_rfl) (fun _ _ _ h => h) (Or.inl ⟨by rfl, ?_⟩) (by assumption) ?_
          rotate_left 1
          · intro w hSw; (try dsimp only at hSw); go_simp; try (with_reducible rfl)
          try simp only [Act.put, List.setIfInBounds_toArray, List.set_cons_zero, List.set_cons_succ]
          refine wpAnyT_take (i := 20) (oi := { dst := some 148, op := Op.unOp UnOp.not 4 (Operand.tmp 147), type := 4, pos := "laws.go:393", after := #[{ on := 19, ground := Ground.data }, { on := 18, ground := Ground.guard }], guard := some (18, true) }) (v := ?_) rfl (by kernel_rfl) (fun _ _ _ h => h) (Or.inl ⟨by rfl, ?_⟩) (by assumption) ?_
          rotate_left 1
          · intro w hSw; (try dsimp only at hSw); go_simp; try (with_reducible rfl)
          try simp only [Act.put, List.setIfInBounds_toArray, List.set_cons_zero, List.set_cons_succ]
          refine wpAnyT_take (i := 21) (oi := { dst := some 149, op := Op.pick (Operand.tmp 146) (Operand.tmp 148) (Operand.const (Value.bool false)), type := 4, pos := "laws.go:393", after := #[{ on := 18, ground := Ground.data }, { on := 20, ground := Ground.data }, { on := 13, ground := Ground.guard }], guard := some (13, true) }) (v := ?_) rfl (by kernel_rfl) (fun _ _ _ h => h) (Or.inl ⟨by rfl, ?_⟩) (by assumption) ?_
          rotate_left 1
          · intro w hSw; (try dsimp only at hSw); go_simp; try (with_reducible rfl)
          try simp only [Act.put, List.setIfInBounds_toArray, List.set_cons_zero, List.set_cons_succ]
          refine wpAnyT_take (i := 22) (oi := { dst := some 150, op := Op.binOp BinOp.eql 4 (Operand.tmp 143) (Operand.tmp 149) 4, type := 4, pos := "laws.go:393", after := #[{ on := 15, ground := Ground.data }, { on := 21, ground := Ground.data }, { on := 13, ground := Ground.guard }], guard := some (13, true) }) (v := ?_) rfl (by kernel_rfl) (fun _ _ _ h => h) (Or.inl ⟨by rfl, ?_⟩) (by assumption) ?_
          rotate_left 1
          · intro w hSw; (try dsimp only at hSw); go_simp; try (with_reducible rfl)
          try simp only [Act.put, List.setIfInBounds_toArray, List.set_cons_zero, List.set_cons_succ]
          refine wpAnyT_take (i := 23) (oi := { dst := some 151, op := Op.pick (Operand.tmp 141) (Operand.tmp 150) (Operand.const (Value.bool false)), type := 4, pos := "laws.go:393", after := #[{ on := 13, ground := Ground.data }, { on := 22, ground := Ground.data }], guard := none }) (v := ?_) rfl (by kernel_rfl) (fun _ _ _ h => h) (Or.inl ⟨by rfl, ?_⟩) (by assumption) ?_
          rotate_left 1
          · intro w hSw; (try dsimp only at hSw); go_simp; try (with_reducible rfl)
          try simp only [Act.put, List.setIfInBounds_toArray, List.set_cons_zero, List.set_cons_succ]
          refine wpAnyT_take (i := 24) (oi := { dst := some 152, op := Op.move (Operand.tmp 151), type := 4, pos := "laws.go:393", after := #[{ on := 23, ground := Ground.data }, { on := 18, ground := Ground.chain }], guard := none }) (v := ?_) rfl (by kernel_rfl) (fun _ _ _ h => h) (Or.inl ⟨by rfl, ?_⟩) (by assumption) ?_
          rotate_left 1
          · intro w hSw; (try dsimp only at hSw); go_simp; try (with_reducible rfl)
          try simp only [Act.put, List.setIfInBounds_toArray, List.set_cons_zero, List.set_cons_succ]
          refine wpAnyT_take (i := 25) (oi := { dst := some 153, op := Op.load 26 (Operand.tmp 3), type := 26, pos := "laws.go:393", after := #[{ on := 24, ground := Ground.guard }], guard := some (24, true) }) (v := ?_) rfl (by kernel_rfl) (fun _ _ _ h => h) (Or.inl ⟨by rfl, ?_⟩) (by assumption) ?_
          rotate_left 1
          · intro w hSw; (try dsimp only at hSw); go_simp; try (with_reducible rfl)
          try simp only [Act.put, List.setIfInBounds_toArray, List.set_cons_zero, List.set_cons_succ]
          refine wpAnyT_take (i := 27) (oi := { dst := some 155, op := Op.load 26 (Operand.tmp 3), type := 26, pos := "laws.go:393", after := #[{ on := 24, ground := Ground.guard }], guard := some (24, true) }) (v := ?_) rfl (by kernel_rfl) (fun _ _ _ h => h) (Or.inl ⟨by rfl, ?_⟩) (by assumption) ?_
          rotate_left 1
          · intro w hSw; (try dsimp only at hSw); go_simp; try (with_reducible rfl)
          try simp only [Act.put, List.setIfInBounds_toArray, List.set_cons_zero, List.set_cons_succ]
          refine wpAnyT_ready (rs := [26]) (by kernel_rfl) (by simp) ?_
          refine (AllReadyT.cons (o := { dst := some 154, op := Op.call { callee := Callee.value (Operand.func 17), args := #[Operand.tmp 153], argTypes := #[26] }, type := 4, pos := "laws.go:393", after := #[{ on := 25, ground := Ground.data }, { on := 24, ground := Ground.chain }, { on := 24, ground := Ground.guard }], guard := some (24, true) }) (rs := []) rfl (fun K hK => ?_) AllReadyT.nil)
          go_simp
          (refine (TS.out _ hb2).mono ?_; rintro e wv3 ⟨rfl, k⟩; have hb3 := hb2.trans (k.mono hb2.size))
          refine hK.out _ _ ?_ (fun hHeld => ?_)
          · exact Cell.out _ hb3
          clear hK K
          try simp only [Act.put, List.setIfInBounds_toArray, List.set_cons_zero, List.set_cons_succ]
          refine wpAnyT_ready (rs := [28]) (by kernel_rfl) (by simp) ?_
          refine (AllReadyT.cons (o := { dst := some 156, op := Op.call { callee := Callee.value (Operand.func 27), args := #[Operand.tmp 155], argTypes := #[26] }, type := 4, pos := "laws.go:393", after := #[{ on := 27, ground := Ground.data }, { on := 26, ground := Ground.chain }, { on := 24, ground := Ground.guard }], guard := some (24, true) }) (rs := []) rfl (fun K hK => ?_) AllReadyT.nil)
          go_simp
          (refine (VG.out _ hb3).mono ?_; rintro e wv4 ⟨rfl, k⟩; have hb4 := hb3.trans (k.mono hb3.size))
          refine hK.out _ _ ?_ (fun hHeld => ?_)
          · exact Cell.out _ hb4
          clear hK K
          try simp only [Act.put, List.setIfInBounds_toArray, List.set_cons_zero, List.set_cons_succ]
          refine wpAnyT_take (i := 29) (oi := { dst := some 157, op := Op.move (Operand.tmp 156), type := 4, pos := "laws.go:393", after := #[{ on := 28, ground := Ground.data }, { on := 28, ground := Ground.chain }, { on := 24, ground := Ground.guard }], guard := some (24, true) }) (v := ?_) rfl (by kernel_rfl) (fun _ _ _ h => h) (Or.inl ⟨by rfl, ?_⟩) (by assumption) ?_
          rotate_left 1
          · intro w hSw; (try dsimp only at hSw); go_simp; try (with_reducible rfl)
          try simp only [Act.put, List.setIfInBounds_toArray, List.set_cons_zero, List.set_cons_succ]
          refine wpAnyT_take (i := 30) (oi := { dst := some 158, op := Op.move (Operand.tmp 18), type := 4, pos := "laws.go:393", after := #[{ on := 29, ground := Ground.guard }], guard := some (29, true) }) (v := ?_) rfl (by kernel_rfl) (fun _ _ _ h => h) (Or.inl ⟨by rfl, ?_⟩) (by assumption) ?_
          rotate_left 1
          · intro w hSw; (try dsimp only at hSw); go_simp; try (with_reducible rfl)
          try simp only [Act.put, List.setIfInBounds_toArray, List.set_cons_zero, List.set_cons_succ]
          refine wpAnyT_take (i := 31) (oi := { dst := some 159, op := Op.unOp UnOp.not 4 (Operand.tmp 158), type := 4, pos := "laws.go:393", after := #[{ on := 30, ground := Ground.data }, { on := 29, ground := Ground.guard }], guard := some (29, true) }) (v := ?_) rfl (by kernel_rfl) (fun _ _ _ h => h) (Or.inl ⟨by rfl, ?_⟩) (by assumption) ?_
          rotate_left 1
          · intro w hSw; (try dsimp only at hSw); go_simp; try (with_reducible rfl)
          try simp only [Act.put, List.setIfInBounds_toArray, List.set_cons_zero, List.set_cons_succ]
          refine wpAnyT_take (i := 32) (oi := { dst := some 160, op := Op.pick (Operand.tmp 157) (Operand.tmp 159) (Operand.const (Value.bool false)), type := 4, pos := "laws.go:393", after := #[{ on := 29, ground := Ground.data }, { on := 31, ground := Ground.data }, { on := 24, ground := Ground.guard }], guard := some (24, true) }) (v := ?_) rfl (by kernel_rfl) (fun _ _ _ h => h) (Or.inl ⟨by rfl, ?_⟩) (by assumption) ?_
          rotate_left 1
          · intro w hSw; (try dsimp only at hSw); go_simp; try (with_reducible rfl)
          try simp only [Act.put, List.setIfInBounds_toArray, List.set_cons_zero, List.set_cons_succ]
          refine wpAnyT_take (i := 33) (oi := { dst := some 161, op := Op.binOp BinOp.eql 4 (Operand.tmp 154) (Operand.tmp 160) 4, type := 4, pos := "laws.go:393", after := #[{ on := 26, ground := Ground.data }, { on := 32, ground := Ground.data }, { on := 24, ground := Ground.guard }], guard := some (24, true) }) (v := ?_) rfl (by kernel_rfl) (fun _ _ _ h => h) (Or.inl ⟨by rfl, ?_⟩) (by assumption) ?_
          rotate_left 1
          · intro w hSw; (try dsimp only at hSw); go_simp; try (with_reducible rfl)
          try simp only [Act.put, List.setIfInBounds_toArray, List.set_cons_zero, List.set_cons_succ]
          refine wpAnyT_take (i := 34) (oi := { dst := some 162, op := Op.pick (Operand.tmp 152) (Operand.tmp 161) (Operand.const (Value.bool false)), type := 4, pos := "laws.go:393", after := #[{ on := 24, ground := Ground.data }, { on := 33, ground := Ground.data }], guard := none }) (v := ?_) rfl (by kernel_rfl) (fun _ _ _ h => h) (Or.inl ⟨by rfl, ?_⟩) (by assumption) ?_
          rotate_left 1
          · intro w hSw; (try dsimp only at hSw); go_simp; try (with_reducible rfl)
          try simp only [Act.put, List.setIfInBounds_toArray, List.set_cons_zero, List.set_cons_succ]
          refine wpAnyT_ready (rs := [35]) (by kernel_rfl) (by simp) ?_
          refine (AllReadyT.last (o := { dst := some 2, op := Op.assign (Operand.tmp 162), type := 4, pos := "laws.go:393", after := #[{ on := 34, ground := Ground.data }, { on := 29, ground := Ground.chain }, { on := 0, ground := Ground.phase }, { on := 1, ground := Ground.phase }, { on := 2, ground := Ground.phase }, { on := 3, ground := Ground.phase }, { on := 4, ground := Ground.phase }, { on := 5, ground := Ground.phase }, { on := 6, ground := Ground.phase }, { on := 7, ground := Ground.phase }, { on := 8, ground := Ground.phase }, { on := 9, ground := Ground.phase }, { on := 10, ground := Ground.phase }, { on := 11, ground := Ground.phase }, { on := 12, ground := Ground.phase }, { on := 13, ground := Ground.phase }, { on := 14, ground := Ground.phase }, { on := 15, ground := Ground.phase }, { on := 16, ground := Ground.phase }, { on := 17, ground := Ground.phase }, { on := 18, ground := Ground.phase }, { on := 19, ground := Ground.phase }, { on := 20, ground := Ground.phase }, { on := 21, ground := Ground.phase }, { on := 22, ground := Ground.phase }, { on := 23, ground := Ground.phase }, { on := 24, ground := Ground.phase }, { on := 25, ground := Ground.phase }, { on := 26, ground := Ground.phase }, { on := 27, ground := Ground.phase }, { on := 28, ground := Ground.phase }, { on := 29, ground := Ground.phase }, { on := 30, ground := Ground.phase }, { on := 31, ground := Ground.phase }, { on := 32, ground := Ground.phase }, { on := 33, ground := Ground.phase }, { on := 34, ground := Ground.phase }], guard := none }) (rs := []) rfl (by rfl) (fun K hK => ?_) AllReadyT.nil)
          go_simp
          refine hK.out _ _ ?_
          clear hK K
          try simp only [Act.put, List.setIfInBounds_toArray, List.set_cons_zero, List.set_cons_succ]
          refine wpAnyT_done (by kernel_rfl) ?_ _
          go_wp2_with fail
          go_ret
          exact ⟨rfl, HB.out.trans (hb4.mono hle)⟩
      · clear hcs
        rcases fau with _ | _
        · rcases sup with _ | _
          · rw [show (true && !true) = false from rfl] at TC
            rw [show (true && !false) = true from rfl] at TM
            rw [show (true && !false) = true from rfl] at TS
            refine (IC.out _ HBW.out).mono ?_
            rintro e w11 ⟨rfl, k⟩
            replace HBW := Lib.hid (HBW.out.trans (k.mono HBW.out.size))
            obtain ⟨m0, m1, -⟩ := Cell.out _ HBW.out
            clear k
            go_wp2_with fail
            refine (SC.out _ HBW.out).mono ?_
            rintro e w12 ⟨rfl, k⟩
            replace HBW := Lib.hid (HBW.out.trans (k.mono HBW.out.size))
            obtain ⟨m0, m1, -⟩ := Cell.out _ HBW.out
            clear k
            go_wp2_with fail
            refine (TC.out _ HBW.out).mono ?_
            rintro e w13 ⟨rfl, k⟩
            replace HBW := Lib.hid (HBW.out.trans (k.mono HBW.out.size))
            obtain ⟨m0, m1, -⟩ := Cell.out _ HBW.out
            clear k
            obtain ⟨hv, a0, b0, rfl, rfl, ha, hb, hok⟩ := Pr.fault_pair HCC.out
            obtain ⟨u, hu, hul⟩ := Pr.uni_at hv ha hb
            obtain ⟨z, hz, hzl⟩ := Pr.ovl_at hv ha hb
            have Hu := Lib.hid (fun W' => (impl_Union (a0 : Int) (b0 : Int) (Pr.good_at hv ha) (Pr.good_at hv hb) W').mono fun _ w' h => (show _ ∧ w' = W' from ⟨h.1, h.2.symm⟩))
            have Ho := Lib.hid (fun W' => (impl_Overlap (a0 : Int) (b0 : Int) (Pr.good_at hv ha) (Pr.good_at hv hb) W').mono fun _ w' h => (show _ ∧ w' = W' from ⟨h.1, h.2.symm⟩))
            rw [hu] at Hu
            rw [hz] at Ho
            have Va := Lib.hid (Vl.out a0 ha)
            have Vb := Lib.hid (Vl.out b0 hb)
            have Vu := Lib.hid (Vl.out u hul)
            have Vz := Lib.hid (Vl.out z hzl)
            have ba := Gm.vld_at hv ha
            have bb := Gm.vld_at hv hb
            have bu := Gm.vld_at hv hul
            have bz := Gm.vld_at hv hzl
            have hgt : ¬ (g.v.getD a0 0 + g.v.getD b0 0 ≤ g.v.getD u 0 + g.v.getD z 0) := by unfold Pr.okC Pr.at' at hok; rw [hu, hz, Int.toNat_natCast, Int.toNat_natCast] at hok; exact of_decide_eq_false hok
            have hl := Gm.vld_len hv
            have l1 : a0 < 32 := by omega
            have l2 : b0 < 32 := by omega
            have l3 : u < 32 := by omega
            have l4 : z < 32 := by omega
            clear hv hu hz hok hl Vl ha hb hul hzl
            generalize g.v.getD a0 0 = X at *
            generalize g.v.getD b0 0 = Y at *
            generalize g.v.getD u 0 = Z at *
            generalize g.v.getD z 0 = U at *
            have hw1 : IntKind.i64.wrap (X + Y) = X + Y := IntWalk.i64_in _ (by omega)
            have hw2 : IntKind.i64.wrap (Z + U) = Z + U := IntWalk.i64_in _ (by omega)
            have hd : decide (X + Y ≤ Z + U) = false := decide_eq_false hgt
            clear hgt
            go_upto_region 8 with fail
            have hb0 := HBW.out.drew
            refine wp_region_T_drew (S := (fun w' => w'.cell? ⟨q, 0, none⟩ = some x ∧ w'.cell? ⟨q, 1, none⟩ = some v ∧ Below W.heap.size W w')) 21 (by kernel_rfl) ?_ (fun hHeld => ?_)
            · exact Cell.out _ hb0
            refine wpAnyT_take (i := 0) (oi := { dst := some 60, op := Op.move (Operand.tmp 6), type := 4, pos := "laws.go:383", after := #[], guard := none }) (v := ?_) rfl (by kernel_rfl) (fun _ _ _ h => h) (Or.inl ⟨by rfl, ?_⟩) (by assumption) ?_
            rotate_left 1
            · intro w hSw; (try dsimp only at hSw); go_simp; try (with_reducible rfl)
            try simp only [Act.put, List.setIfInBounds_toArray, List.set_cons_zero, List.set_cons_succ]
            refine wpAnyT_take (i := 1) (oi := { dst := some 61, op := Op.move (Operand.tmp 60), type := 4, pos := "laws.go:383", after := #[{ on := 0, ground := Ground.data }], guard := none }) (v := ?_) rfl (by kernel_rfl) (fun _ _ _ h => h) (Or.inl ⟨by rfl, ?_⟩) (by assumption) ?_
            rotate_left 1
            · intro w hSw; (try dsimp only at hSw); go_simp; try (with_reducible rfl)
            try simp only [Act.put, List.setIfInBounds_toArray, List.set_cons_zero, List.set_cons_succ]
            refine wpAnyT_take (i := 2) (oi := { dst := some 62, op := Op.load 26 (Operand.tmp 3), type := 26, pos := "laws.go:383", after := #[{ on := 1, ground := Ground.guard }], guard := some (1, true) }) (v := ?_) rfl (by kernel_rfl) (fun _ _ _ h => h) (Or.inl ⟨by rfl, ?_⟩) (by assumption) ?_
            rotate_left 1
            · intro w hSw; (try dsimp only at hSw); go_simp; try (with_reducible rfl)
            try simp only [Act.put, List.setIfInBounds_toArray, List.set_cons_zero, List.set_cons_succ]
            refine wpAnyT_take (i := 3) (oi := { dst := some 63, op := Op.move (Operand.tmp 4), type := 3, pos := "laws.go:383", after := #[{ on := 1, ground := Ground.guard }], guard := some (1, true) }) (v := ?_) rfl (by kernel_rfl) (fun _ _ _ h => h) (Or.inl ⟨by rfl, ?_⟩) (by assumption) ?_
            rotate_left 1
            · intro w hSw; (try dsimp only at hSw); go_simp; try (with_reducible rfl)
            try simp only [Act.put, List.setIfInBounds_toArray, List.set_cons_zero, List.set_cons_succ]
            refine wpAnyT_take (i := 5) (oi := { dst := some 65, op := Op.load 26 (Operand.tmp 3), type := 26, pos := "laws.go:383", after := #[{ on := 1, ground := Ground.guard }], guard := some (1, true) }) (v := ?_) rfl (by kernel_rfl) (fun _ _ _ h => h) (Or.inl ⟨by rfl, ?_⟩) (by assumption) ?_
            rotate_left 1
            · intro w hSw; (try dsimp only at hSw); go_simp; try (with_reducible rfl)
            try simp only [Act.put, List.setIfInBounds_toArray, List.set_cons_zero, List.set_cons_succ]
            refine wpAnyT_take (i := 6) (oi := { dst := some 66, op := Op.move (Operand.tmp 5), type := 3, pos := "laws.go:383", after := #[{ on := 1, ground := Ground.guard }], guard := some (1, true) }) (v := ?_) rfl (by kernel_rfl) (fun _ _ _ h => h) (Or.inl ⟨by rfl, ?_⟩) (by assumption) ?_
            rotate_left 1
            · intro w hSw; (try dsimp only at hSw); go_simp; try (with_reducible rfl)
            try simp only [Act.put, List.setIfInBounds_toArray, List.set_cons_zero, List.set_cons_succ]
            refine wpAnyT_take (i := 9) (oi := { dst := some 69, op := Op.load 26 (Operand.tmp 3), type := 26, pos := "laws.go:383", after := #[{ on := 1, ground := Ground.guard }], guard := some (1, true) }) (v := ?_) rfl (by kernel_rfl) (fun _ _ _ h => h) (Or.inl ⟨by rfl, ?_⟩) (by assumption) ?_
            rotate_left 1
            · intro w hSw; (try dsimp only at hSw); go_simp; try (with_reducible rfl)
            try simp only [Act.put, List.setIfInBounds_toArray, List.set_cons_zero, List.set_cons_succ]
            refine wpAnyT_take (i := 10) (oi := { dst := some 70, op := Op.move (Operand.tmp 4), type := 3, pos := "laws.go:383", after := #[{ on := 1, ground := Ground.guard }], guard := some (1, true) }) (v := ?_) rfl (by kernel_rfl) (fun _ _ _ h => h) (Or.inl ⟨by rfl, ?_⟩) (by assumption) ?_
            rotate_left 1
            · intro w hSw; (try dsimp only at hSw); go_simp; try (with_reducible rfl)
            try simp only [Act.put, List.setIfInBounds_toArray, List.set_cons_zero, List.set_cons_succ]
            refine wpAnyT_take (i := 11) (oi := { dst := some 71, op := Op.move (Operand.tmp 5), type := 3, pos := "laws.go:383", after := #[{ on := 1, ground := Ground.guard }], guard := some (1, true) }) (v := ?_) rfl (by kernel_rfl) (fun _ _ _ h => h) (Or.inl ⟨by rfl, ?_⟩) (by assumption) ?_
            rotate_left 1
            · intro w hSw; (try dsimp only at hSw); go_simp; try (with_reducible rfl)
            try simp only [Act.put, List.setIfInBounds_toArray, List.set_cons_zero, List.set_cons_succ]
            refine wpAnyT_take (i := 14) (oi := { dst := some 74, op := Op.load 26 (Operand.tmp 3), type := 26, pos := "laws.go:383", after := #[{ on := 1, ground := Ground.guard }], guard := some (1, true) }) (v := ?_) rfl (by kernel_rfl) (fun _ _ _ h => h) (Or.inl ⟨by rfl, ?_⟩) (by assumption) ?_
            rotate_left 1
            · intro w hSw; (try dsimp only at hSw); go_simp; try (with_reducible rfl)
            try simp only [Act.put, List.setIfInBounds_toArray, List.set_cons_zero, List.set_cons_succ]
            refine wpAnyT_take (i := 15) (oi := { dst := some 75, op := Op.move (Operand.tmp 4), type := 3, pos := "laws.go:383", after := #[{ on := 1, ground := Ground.guard }], guard := some (1, true) }) (v := ?_) rfl (by kernel_rfl) (fun _ _ _ h => h) (Or.inl ⟨by rfl, ?_⟩) (by assumption) ?_
            rotate_left 1
            · intro w hSw; (try dsimp only at hSw); go_simp; try (with_reducible rfl)
            try simp only [Act.put, List.setIfInBounds_toArray, List.set_cons_zero, List.set_cons_succ]
            refine wpAnyT_take (i := 16) (oi := { dst := some 76, op := Op.move (Operand.tmp 5), type := 3, pos := "laws.go:383", after := #[{ on := 1, ground := Ground.guard }], guard := some (1, true) }) (v := ?_) rfl (by kernel_rfl) (fun _ _ _ h => h) (Or.inl ⟨by rfl, ?_⟩) (by assumption) ?_
            rotate_left 1
            · intro w hSw; (try dsimp only at hSw); go_simp; try (with_reducible rfl)
            try simp only [Act.put, List.setIfInBounds_toArray, List.set_cons_zero, List.set_cons_succ]
            refine wpAnyT_ready (rs := [4]) (by kernel_rfl) (by simp) ?_
            refine (AllReadyT.cons (o := { dst := some 64, op := Op.call { callee := Callee.value (Operand.func 18), args := #[Operand.tmp 62, Operand.tmp 63], argTypes := #[26, 3] }, type := 3, pos := "laws.go:383", after := #[{ on := 2, ground := Ground.data }, { on := 3, ground := Ground.data }, { on := 1, ground := Ground.chain }, { on := 1, ground := Ground.guard }], guard := some (1, true) }) (rs := []) rfl (fun K hK => ?_) AllReadyT.nil)
            go_simp
            (refine (Va.out _ hb0).mono ?_; rintro e wv1 ⟨rfl, k⟩; have hb1 := hb0.trans (k.mono hb0.size))
            refine hK.out _ _ ?_ (fun hHeld => ?_)
            · exact Cell.out _ hb1
            clear hK K
            try simp only [Act.put, List.setIfInBounds_toArray, List.set_cons_zero, List.set_cons_succ]
            refine wpAnyT_ready (rs := [7]) (by kernel_rfl) (by simp) ?_
            refine (AllReadyT.cons (o := { dst := some 67, op := Op.call { callee := Callee.value (Operand.func 18), args := #[Operand.tmp 65, Operand.tmp 66], argTypes := #[26, 3] }, type := 3, pos := "laws.go:383", after := #[{ on := 5, ground := Ground.data }, { on := 6, ground := Ground.data }, { on := 4, ground := Ground.chain }, { on := 1, ground := Ground.guard }], guard := some (1, true) }) (rs := []) rfl (fun K hK => ?_) AllReadyT.nil)
            go_simp
            (refine (Vb.out _ hb1).mono ?_; rintro e wv2 ⟨rfl, k⟩; have hb2 := hb1.trans (k.mono hb1.size))
            refine hK.out _ _ ?_ (fun hHeld => ?_)
            · exact Cell.out _ hb2
            clear hK K
            try simp only [Act.put, List.setIfInBounds_toArray, List.set_cons_zero, List.set_cons_succ]
            refine wpAnyT_take (i := 8) (oi := { dst := some 68, op := Op.binOp BinOp.add 3 (Operand.tmp 64) (Operand.tmp 67) 3, type := 3, pos := "laws.go:383", after := #[{ on := 4, ground := Ground.data }, { on := 7, ground := Ground.data }, { on := 1, ground := Ground.guard }], guard := some (1, true) }) (v := ?_) rfl (by kernel_rfl) (fun _ _ _ h => h) (Or.inl ⟨by rfl, ?_⟩) (by assumption) ?_
            rotate_left 1
            · intro w hSw; (try dsimp only at hSw); go_simp; try (with_reducible rfl)
            try simp only [Act.put, List.setIfInBounds_toArray, List.set_cons_zero, List.set_cons_succ]
            refine wpAnyT_ready (rs := [12]) (by kernel_rfl) (by simp) ?_
            refine (AllReadyT.cons (o := { dst := some 72, op := Op.call { callee := Callee.value (Operand.func 19), args := #[Operand.tmp 70, Operand.tmp 71], argTypes := #[3, 3] }, type := 3, pos := "laws.go:383", after := #[{ on := 10, ground := Ground.data }, { on := 11, ground := Ground.data }, { on := 7, ground := Ground.chain }, { on := 1, ground := Ground.guard }], guard := some (1, true) }) (rs := []) rfl (fun K hK => ?_) AllReadyT.nil)
            go_simp
            (refine (Hu.out _).mono ?_; rintro e wu ⟨rfl, rfl⟩)
            refine hK.out _ _ ?_ (fun hHeld => ?_)
            · exact Cell.out _ hb2
            clear hK K
            try simp only [Act.put, List.setIfInBounds_toArray, List.set_cons_zero, List.set_cons_succ]
            refine wpAnyT_ready (rs := [13]) (by kernel_rfl) (by simp) ?_
            refine (AllReadyT.cons (o := { dst := some 73, op := Op.call { callee := Callee.value (Operand.func 18), args := #[Operand.tmp 69, Operand.tmp 72], argTypes := #[26, 3] }, type := 3, pos := "laws.go:383", after := #[{ on := 9, ground := Ground.data }, { on := 12, ground := Ground.data }, { on := 12, ground := Ground.chain }, { on := 1, ground := Ground.guard }], guard := some (1, true) }) (rs := []) rfl (fun K hK => ?_) AllReadyT.nil)
            go_simp
            (refine (Vu.out _ hb2).mono ?_; rintro e wv3 ⟨rfl, k⟩; have hb3 := hb2.trans (k.mono hb2.size))
            refine hK.out _ _ ?_ (fun hHeld => ?_)
            · exact Cell.out _ hb3
            clear hK K
            try simp only [Act.put, List.setIfInBounds_toArray, List.set_cons_zero, List.set_cons_succ]
            refine wpAnyT_ready (rs := [17]) (by kernel_rfl) (by simp) ?_
            refine (AllReadyT.cons (o := { dst := some 77, op := Op.call { callee := Callee.value (Operand.func 20), args := #[Operand.tmp 75, Operand.tmp 76], argTypes := #[3, 3] }, type := 3, pos := "laws.go:383", after := #[{ on := 15, ground := Ground.data }, { on := 16, ground := Ground.data }, { on := 13, ground := Ground.chain }, { on := 1, ground := Ground.guard }], guard := some (1, true) }) (rs := []) rfl (fun K hK => ?_) AllReadyT.nil)
            go_simp
            (refine (Ho.out _).mono ?_; rintro e wo ⟨rfl, rfl⟩)
            refine hK.out _ _ ?_ (fun hHeld => ?_)
            · exact Cell.out _ hb3
            clear hK K
            try simp only [Act.put, List.setIfInBounds_toArray, List.set_cons_zero, List.set_cons_succ]
            refine wpAnyT_ready (rs := [18]) (by kernel_rfl) (by simp) ?_
            refine (AllReadyT.cons (o := { dst := some 78, op := Op.call { callee := Callee.value (Operand.func 18), args := #[Operand.tmp 74, Operand.tmp 77], argTypes := #[26, 3] }, type := 3, pos := "laws.go:383", after := #[{ on := 14, ground := Ground.data }, { on := 17, ground := Ground.data }, { on := 17, ground := Ground.chain }, { on := 1, ground := Ground.guard }], guard := some (1, true) }) (rs := []) rfl (fun K hK => ?_) AllReadyT.nil)
            go_simp
            (refine (Vz.out _ hb3).mono ?_; rintro e wv4 ⟨rfl, k⟩; have hb4 := hb3.trans (k.mono hb3.size))
            refine hK.out _ _ ?_ (fun hHeld => ?_)
            · exact Cell.out _ hb4
            clear hK K
            try simp only [Act.put, List.setIfInBounds_toArray, List.set_cons_zero, List.set_cons_succ]
            refine wpAnyT_take (i := 19) (oi := { dst := some 79, op := Op.binOp BinOp.add 3 (Operand.tmp 73) (Operand.tmp 78) 3, type := 3, pos := "laws.go:383", after := #[{ on := 13, ground := Ground.data }, { on := 18, ground := Ground.data }, { on := 1, ground := Ground.guard }], guard := some (1, true) }) (v := ?_) rfl (by kernel_rfl) (fun _ _ _ h => h) (Or.inl ⟨by rfl, ?_⟩) (by assumption) ?_
            rotate_left 1
            · intro w hSw; (try dsimp only at hSw); go_simp; try (with_reducible rfl)
            try simp only [Act.put, List.setIfInBounds_toArray, List.set_cons_zero, List.set_cons_succ]
            refine wpAnyT_take (i := 20) (oi := { dst := some 80, op := Op.binOp BinOp.leq 3 (Operand.tmp 68) (Operand.tmp 79) 3, type := 4, pos := "laws.go:383", after := #[{ on := 8, ground := Ground.data }, { on := 19, ground := Ground.data }, { on := 1, ground := Ground.guard }], guard := some (1, true) }) (v := ?_) rfl (by kernel_rfl) (fun _ _ _ h => h) (Or.inl ⟨by rfl, ?_⟩) (by assumption) ?_
            rotate_left 1
            · intro w hSw; (try dsimp only at hSw); go_simp; try (with_reducible rfl)
            try simp only [Act.put, List.setIfInBounds_toArray, List.set_cons_zero, List.set_cons_succ]
            refine wpAnyT_ready (rs := [21]) (by kernel_rfl) (by simp) ?_
            refine (AllReadyT.last (o := { dst := some 81, op := Op.pick (Operand.tmp 61) (Operand.tmp 80) (Operand.const (Value.bool false)), type := 4, pos := "laws.go:383", after := #[{ on := 1, ground := Ground.data }, { on := 20, ground := Ground.data }], guard := none }) (rs := []) rfl (by rfl) (fun K hK => ?_) AllReadyT.nil)
            go_simp
            refine hK.out _ _ ?_
            clear hK K
            try simp only [Act.put, List.setIfInBounds_toArray, List.set_cons_zero, List.set_cons_succ]
            refine wpAnyT_done (by kernel_rfl) ?_ _
            replace HBW := Lib.hid hb4
            obtain ⟨m0, m1, -⟩ := Cell.out _ HBW.out
            go_wp2_with fail
            refine (IM.out _ HBW.out).mono ?_
            rintro e w14 ⟨rfl, k⟩
            replace HBW := Lib.hid (HBW.out.trans (k.mono HBW.out.size))
            obtain ⟨m0, m1, -⟩ := Cell.out _ HBW.out
            clear k
            go_wp2_with fail
            refine (SM.out _ HBW.out).mono ?_
            rintro e w15 ⟨rfl, k⟩
            replace HBW := Lib.hid (HBW.out.trans (k.mono HBW.out.size))
            obtain ⟨m0, m1, -⟩ := Cell.out _ HBW.out
            clear k
            go_wp2_with fail
            refine (IS.out _ HBW.out).mono ?_
            rintro e w16 ⟨rfl, k⟩
            replace HBW := Lib.hid (HBW.out.trans (k.mono HBW.out.size))
            obtain ⟨m0, m1, -⟩ := Cell.out _ HBW.out
            clear k
            go_wp2_with fail
            refine (SS.out _ HBW.out).mono ?_
            rintro e w17 ⟨rfl, k⟩
            replace HBW := Lib.hid (HBW.out.trans (k.mono HBW.out.size))
            obtain ⟨m0, m1, -⟩ := Cell.out _ HBW.out
            clear k
            go_upto_region 16 with fail
            have hb0 := HBW.out.drew
            refine wp_region_T_drew (S := (fun w' => w'.cell? ⟨q, 0, none⟩ = some x ∧ w'.cell? ⟨q, 1, none⟩ = some v ∧ Below W.heap.size W w')) 35 (by kernel_rfl) ?_ (fun hHeld => ?_)
            · exact Cell.out _ hb0
            refine wpAnyT_take (i := 0) (oi := { dst := some 128, op := Op.move (Operand.tmp 16), type := 3, pos := "laws.go:393", after := #[], guard := none }) (v := ?_) rfl (by kernel_rfl) (fun _ _ _ h => h) (Or.inl ⟨by rfl, ?_⟩) (by assumption) ?_
            rotate_left 1
            · intro w hSw; (try dsimp only at hSw); go_simp; try (with_reducible rfl)
            try simp only [Act.put, List.setIfInBounds_toArray, List.set_cons_zero, List.set_cons_succ]
            refine wpAnyT_take (i := 1) (oi := { dst := some 129, op := Op.move (Operand.tmp 19), type := 3, pos := "laws.go:393", after := #[], guard := none }) (v := ?_) rfl (by kernel_rfl) (fun _ _ _ h => h) (Or.inl ⟨by rfl, ?_⟩) (by assumption) ?_
            rotate_left 1
            · intro w hSw; (try dsimp only at hSw); go_simp; try (with_reducible rfl)
            try simp only [Act.put, List.setIfInBounds_toArray, List.set_cons_zero, List.set_cons_succ]
            refine wpAnyT_take (i := 2) (oi := { dst := some 130, op := Op.binOp BinOp.eql 3 (Operand.tmp 128) (Operand.tmp 129) 3, type := 4, pos := "laws.go:393", after := #[{ on := 0, ground := Ground.data }, { on := 1, ground := Ground.data }], guard := none }) (v := ?_) rfl (by kernel_rfl) (fun _ _ _ h => h) (Or.inl ⟨by rfl, ?_⟩) (by assumption) ?_
            rotate_left 1
            · intro w hSw; (try dsimp only at hSw); go_simp; try (with_reducible rfl)
            try simp only [Act.put, List.setIfInBounds_toArray, List.set_cons_zero, List.set_cons_succ]
            refine wpAnyT_take (i := 3) (oi := { dst := some 131, op := Op.move (Operand.tmp 130), type := 4, pos := "laws.go:393", after := #[{ on := 2, ground := Ground.data }], guard := none }) (v := ?_) rfl (by kernel_rfl) (fun _ _ _ h => h) (Or.inl ⟨by rfl, ?_⟩) (by assumption) ?_
            rotate_left 1
            · intro w hSw; (try dsimp only at hSw); go_simp; try (with_reducible rfl)
            try simp only [Act.put, List.setIfInBounds_toArray, List.set_cons_zero, List.set_cons_succ]
            refine wpAnyT_take (i := 4) (oi := { dst := some 132, op := Op.move (Operand.tmp 17), type := 3, pos := "laws.go:393", after := #[{ on := 3, ground := Ground.guard }], guard := some (3, true) }) (v := ?_) rfl (by kernel_rfl) (fun _ _ _ h => h) (Or.inl ⟨by rfl, ?_⟩) (by assumption) ?_
            rotate_left 1
            · intro w hSw; (try dsimp only at hSw); go_simp; try (with_reducible rfl)
            try simp only [Act.put, List.setIfInBounds_toArray, List.set_cons_zero, List.set_cons_succ]
            refine wpAnyT_take (i := 5) (oi := { dst := some 133, op := Op.move (Operand.tmp 20), type := 3, pos := "laws.go:393", after := #[{ on := 3, ground := Ground.guard }], guard := some (3, true) }) (v := ?_) rfl (by kernel_rfl) (fun _ _ _ h => h) (Or.inl ⟨by rfl, ?_⟩) (by assumption) ?_
            rotate_left 1
            · intro w hSw; (try dsimp only at hSw); go_simp; try (with_reducible rfl)
            try simp only [Act.put, List.setIfInBounds_toArray, List.set_cons_zero, List.set_cons_succ]
            refine wpAnyT_take (i := 6) (oi := { dst := some 134, op := Op.binOp BinOp.eql 3 (Operand.tmp 132) (Operand.tmp 133) 3, type := 4, pos := "laws.go:393", after := #[{ on := 4, ground := Ground.data }, { on := 5, ground := Ground.data }, { on := 3, ground := Ground.guard }], guard := some (3, true) }) (v := ?_) rfl (by kernel_rfl) (fun _ _ _ h => h) (Or.inl ⟨by rfl, ?_⟩) (by assumption) ?_
            rotate_left 1
            · intro w hSw; (try dsimp only at hSw); go_simp; try (with_reducible rfl)
            try simp only [Act.put, List.setIfInBounds_toArray, List.set_cons_zero, List.set_cons_succ]
            refine wpAnyT_take (i := 7) (oi := { dst := some 135, op := Op.pick (Operand.tmp 131) (Operand.tmp 134) (Operand.const (Value.bool false)), type := 4, pos := "laws.go:393", after := #[{ on := 3, ground := Ground.data }, { on := 6, ground := Ground.data }], guard := none }) (v := ?_) rfl (by kernel_rfl) (fun _ _ _ h => h) (Or.inl ⟨by rfl, ?_⟩) (by assumption) ?_
            rotate_left 1
            · intro w hSw; (try dsimp only at hSw); go_simp; try (with_reducible rfl)
            try simp only [Act.put, List.setIfInBounds_toArray, List.set_cons_zero, List.set_cons_succ]
            refine wpAnyT_take (i := 8) (oi := { dst := some 136, op := Op.move (Operand.tmp 135), type := 4, pos := "laws.go:393", after := #[{ on := 7, ground := Ground.data }, { on := 3, ground := Ground.chain }], guard := none }) (v := ?_) rfl (by kernel_rfl) (fun _ _ _ h => h) (Or.inl ⟨by rfl, ?_⟩) (by assumption) ?_
            rotate_left 1
            · intro w hSw; (try dsimp only at hSw); go_simp; try (with_reducible rfl)
            try simp only [Act.put, List.setIfInBounds_toArray, List.set_cons_zero, List.set_cons_succ]
            refine wpAnyT_take (i := 9) (oi := { dst := some 137, op := Op.move (Operand.tmp 18), type := 4, pos := "laws.go:393", after := #[{ on := 8, ground := Ground.guard }], guard := some (8, true) }) (v := ?_) rfl (by kernel_rfl) (fun _ _ _ h => h) (Or.inl ⟨by rfl, ?_⟩) (by assumption) ?_
            rotate_left 1
            · intro w hSw; (try dsimp only at hSw); go_simp; try (with_reducible rfl)
            try simp only [Act.put, List.setIfInBounds_toArray, List.set_cons_zero, List.set_cons_succ]
            refine wpAnyT_take (i := 10) (oi := { dst := some 138, op := Op.move (Operand.tmp 21), type := 4, pos := "laws.go:393", after := #[{ on := 8, ground := Ground.guard }], guard := some (8, true) }) (v := ?_) rfl (by kernel_rfl) (fun _ _ _ h => h) (Or.inl ⟨by rfl, ?_⟩) (by assumption) ?_
            rotate_left 1
            · intro w hSw; (try dsimp only at hSw); go_simp; try (with_reducible rfl)
            try simp only [Act.put, List.setIfInBounds_toArray, List.set_cons_zero, List.set_cons_succ]
            refine wpAnyT_take (i := 11) (oi := { dst := some 139, op := Op.binOp BinOp.eql 4 (Operand.tmp 137) (Operand.tmp 138) 4, type := 4, pos := "laws.go:393", after := #[{ on := 9, ground := Ground.data }, { on := 10, ground := Ground.data }, { on := 8, ground := Ground.guard }], guard := some (8, true) }) (v := ?_) rfl (by kernel_rfl) (fun _ _ _ h => h) (Or.inl ⟨by rfl, ?_⟩) (by assumption) ?_
            rotate_left 1
            · intro w hSw; (try dsimp only at hSw); go_simp; try (with_reducible rfl)
            try simp only [Act.put, List.setIfInBounds_toArray, List.set_cons_zero, List.set_cons_succ]
            refine wpAnyT_take (i := 12) (oi := { dst := some 140, op := Op.pick (Operand.tmp 136) (Operand.tmp 139) (Operand.const (Value.bool false)), type := 4, pos := "laws.go:393", after := #[{ on := 8, ground := Ground.data }, { on := 11, ground := Ground.data }], guard := none }) (v := ?_) rfl (by kernel_rfl) (fun _ _ _ h => h) (Or.inl ⟨by rfl, ?_⟩) (by assumption) ?_
            rotate_left 1
            · intro w hSw; (try dsimp only at hSw); go_simp; try (with_reducible rfl)
            try simp only [Act.put, List.setIfInBounds_toArray, List.set_cons_zero, List.set_cons_succ]
            refine wpAnyT_take (i := 13) (oi := { dst := some 141, op := Op.move (Operand.tmp 140), type := 4, pos := "laws.go:393", after := #[{ on := 12, ground := Ground.data }, { on := 8, ground := Ground.chain }], guard := none }) (v := ?_) rfl (by kernel_rfl) (fun _ _ _ h => h) (Or.inl ⟨by rfl, ?_⟩) (by assumption) ?_
            rotate_left 1
            · intro w hSw; (try dsimp only at hSw); go_simp; try (with_reducible rfl)
            try simp only [Act.put, List.setIfInBounds_toArray, List.set_cons_zero, List.set_cons_succ]
            refine wpAnyT_take (i := 14) (oi := { dst := some 142, op := Op.load 26 (Operand.tmp 3), type := 26, pos := "laws.go:393", after := #[{ on := 13, ground := Ground.guard }], guard := some (13, true) }) (v := ?_) rfl (by kernel_rfl) (fun _ _ _ h => h) (Or.inl ⟨by rfl, ?_⟩) (by assumption) ?_
            rotate_left 1
            · intro w hSw; (try dsimp only at hSw); go_simp; try (with_reducible rfl)
            try simp only [Act.put, List.setIfInBounds_toArray, List.set_cons_zero, List.set_cons_succ]
            refine wpAnyT_take (i := 16) (oi := { dst := some 144, op := Op.load 26 (Operand.tmp 3), type := 26, pos := "laws.go:393", after := #[{ on := 13, ground := Ground.guard }], guard := some (13, true) }) (v := ?_) rfl (by kernel_rfl) (fun _ _ _ h => h) (Or.inl ⟨by rfl, ?_⟩) (by assumption) ?_
            rotate_left 1
            · intro w hSw; (try dsimp only at hSw); go_simp; try (with_reducible rfl)
            try simp only [Act.put, List.setIfInBounds_toArray, List.set_cons_zero, List.set_cons_succ]
            refine wpAnyT_ready (rs := [15]) (by kernel_rfl) (by simp) ?_
            refine (AllReadyT.cons (o := { dst := some 143, op := Op.call { callee := Callee.value (Operand.func 26), args := #[Operand.tmp 142], argTypes := #[26] }, type := 4, pos := "laws.go:393", after := #[{ on := 14, ground := Ground.data }, { on := 13, ground := Ground.chain }, { on := 13, ground := Ground.guard }], guard := some (13, true) }) (rs := []) rfl (fun K hK => ?_) AllReadyT.nil)
            go_simp
            (refine (TM.out _ hb0).mono ?_; rintro e wv1 ⟨rfl, k⟩; have hb1 := hb0.trans (k.mono hb0.size))
            refine hK.out _ _ ?_ (fun hHeld => ?_)
            · exact Cell.out _ hb1
            clear hK K
            try simp only [Act.put, List.setIfInBounds_toArray, List.set_cons_zero, List.set_cons_succ]
            refine wpAnyT_ready (rs := [17]) (by kernel_rfl) (by simp) ?_
            refine (AllReadyT.cons (o := { dst := some 145, op := Op.call { callee := Callee.value (Operand.func 27), args := #[Operand.tmp 144], argTypes := #[26] }, type := 4, pos := "laws.go:393", after := #[{ on := 16, ground := Ground.data }, { on := 15, ground := Ground.chain }, { on := 13, ground := Ground.guard }], guard := some (13, true) }) (rs := []) rfl (fun K hK => ?_) AllReadyT.nil)
            go_simp
            (refine (VG.out _ hb1).mono ?_; rintro e wv2 ⟨rfl, k⟩; have hb2 := hb1.trans (k.mono hb1.size))
            refine hK.out _ _ ?_ (fun hHeld => ?_)
            · exact Cell.out _ hb2
            clear hK K
            try simp only [Act.put, List.setIfInBounds_toArray, List.set_cons_zero, List.set_cons_succ]
            refine wpAnyT_take (i := 18) (oi := { dst := some 146, op := Op.move (Operand.tmp 145), type := 4, pos := "laws.go:393", after := #[{ on := 17, ground := Ground.data }, { on := 17, ground := Ground.chain }, { on := 13, ground := Ground.guard }], guard := some (13, true) }) (v := ?_) rfl (by kernel_rfl) (fun _ _ _ h => h) (Or.inl ⟨by rfl, ?_⟩) (by assumption) ?_
            rotate_left 1
            · intro w hSw; (try dsimp only at hSw); go_simp; try (with_reducible rfl)
            try simp only [Act.put, List.setIfInBounds_toArray, List.set_cons_zero, List.set_cons_succ]
            refine wpAnyT_take (i := 19) (oi := { dst := some 147, op := Op.move (Operand.tmp 12), type := 4, pos := "laws.go:393", after := #[{ on := 18, ground := Ground.guard }], guard := some (18, true) }) (v := ?_) rfl (by kernel_rfl) (fun _ _ _ h => h) (Or.inl ⟨by rfl, ?_⟩) (by assumption) ?_
            rotate_left 1
            · intro w hSw; (try dsimp only at hSw); go_simp; try (with_reducible rfl)
            try simp only [Act.put, List.setIfInBounds_toArray, List.set_cons_zero, List.set_cons_succ]
            refine wpAnyT_take (i := 20) (oi := { dst := some 148, op := Op.unOp UnOp.not 4 (Operand.tmp 147), type := 4, pos := "laws.go:393", after := #[{ on := 19, ground := Ground.data }, { on := 18, ground := Ground.guard }], guard := some (18, true) }) (v := ?_) rfl (by kernel_rfl) (fun _ _ _ h => h) (Or.inl ⟨by rfl, ?_⟩) (by assumption) ?_
            rotate_left 1
            · intro w hSw; (try dsimp only at hSw); go_simp; try (with_reducible rfl)
            try simp only [Act.put, List.setIfInBounds_toArray, List.set_cons_zero, List.set_cons_succ]
            refine wpAnyT_take (i := 21) (oi := { dst := some 149, op := Op.pick (Operand.tmp 146) (Operand.tmp 148) (Operand.const (Value.bool false)), type := 4, pos := "laws.go:393", after := #[{ on := 18, ground := Ground.data }, { on := 20, ground := Ground.data }, { on := 13, ground := Ground.guard }], guard := some (13, true) }) (v := ?_) rfl (by kernel_rfl) (fun _ _ _ h => h) (Or.inl ⟨by rfl, ?_⟩) (by assumption) ?_
            rotate_left 1
            · intro w hSw; (try dsimp only at hSw); go_simp; try (with_reducible rfl)
            try simp only [Act.put, List.setIfInBounds_toArray, List.set_cons_zero, List.set_cons_succ]
            refine wpAnyT_take (i := 22) (oi := { dst := some 150, op := Op.binOp BinOp.eql 4 (Operand.tmp 143) (Operand.tmp 149) 4, type := 4, pos := "laws.go:393", after := #[{ on := 15, ground := Ground.data }, { on := 21, ground := Ground.data }, { on := 13, ground := Ground.guard }], guard := some (13, true) }) (v := ?_) rfl (by kernel_rfl) (fun _ _ _ h => h) (Or.inl ⟨by rfl, ?_⟩) (by assumption) ?_
            rotate_left 1
            · intro w hSw; (try dsimp only at hSw); go_simp; try (with_reducible rfl)
            try simp only [Act.put, List.setIfInBounds_toArray, List.set_cons_zero, List.set_cons_succ]
            refine wpAnyT_take (i := 23) (oi := { dst := some 151, op := Op.pick (Operand.tmp 141) (Operand.tmp 150) (Operand.const (Value.bool false)), type := 4, pos := "laws.go:393", after := #[{ on := 13, ground := Ground.data }, { on := 22, ground := Ground.data }], guard := none }) (v := ?_) rfl (by kernel_rfl) (fun _ _ _ h => h) (Or.inl ⟨by rfl, ?_⟩) (by assumption) ?_
            rotate_left 1
            · intro w hSw; (try dsimp only at hSw); go_simp; try (with_reducible rfl)
            try simp only [Act.put, List.setIfInBounds_toArray, List.set_cons_zero, List.set_cons_succ]
            refine wpAnyT_take (i := 24) (oi := { dst := some 152, op := Op.move (Operand.tmp 151), type := 4, pos := "laws.go:393", after := #[{ on := 23, ground := Ground.data }, { on := 18, ground := Ground.chain }], guard := none }) (v := ?_) rfl (by kernel_rfl) (fun _ _ _ h => h) (Or.inl ⟨by rfl, ?_⟩) (by assumption) ?_
            rotate_left 1
            · intro w hSw; (try dsimp only at hSw); go_simp; try (with_reducible rfl)
            try simp only [Act.put, List.setIfInBounds_toArray, List.set_cons_zero, List.set_cons_succ]
            refine wpAnyT_take (i := 25) (oi := { dst := some 153, op := Op.load 26 (Operand.tmp 3), type := 26, pos := "laws.go:393", after := #[{ on := 24, ground := Ground.guard }], guard := some (24, true) }) (v := ?_) rfl (by kernel_rfl) (fun _ _ _ h => h) (Or.inl ⟨by rfl, ?_⟩) (by assumption) ?_
            rotate_left 1
            · intro w hSw; (try dsimp only at hSw); go_simp; try (with_reducible rfl)
            try simp only [Act.put, List.setIfInBounds_toArray, List.set_cons_zero, List.set_cons_succ]
            refine wpAnyT_take (i := 27) (oi := { dst := some 155, op := Op.load 26 (Operand.tmp 3), type := 26, pos := "laws.go:393", after := #[{ on := 24, ground := Ground.guard }], guard := some (24, true) }) (v := ?_) rfl (by kernel_rfl) (fun _ _ _ h => h) (Or.inl ⟨by rfl, ?_⟩) (by assumption) ?_
            rotate_left 1
            · intro w hSw; (try dsimp only at hSw); go_simp; try (with_reducible rfl)
            try simp only [Act.put, List.setIfInBounds_toArray, List.set_cons_zero, List.set_cons_succ]
            refine wpAnyT_ready (rs := [26]) (by kernel_rfl) (by simp) ?_
            refine (AllReadyT.cons (o := { dst := some 154, op := Op.call { callee := Callee.value (Operand.func 17), args := #[Operand.tmp 153], argTypes := #[26] }, type := 4, pos := "laws.go:393", after := #[{ on := 25, ground := Ground.data }, { on := 24, ground := Ground.chain }, { on := 24, ground := Ground.guard }], guard := some (24, true) }) (rs := []) rfl (fun K hK => ?_) AllReadyT.nil)
            go_simp
            (refine (TS.out _ hb2).mono ?_; rintro e wv3 ⟨rfl, k⟩; have hb3 := hb2.trans (k.mono hb2.size))
            refine hK.out _ _ ?_ (fun hHeld => ?_)
            · exact Cell.out _ hb3
            clear hK K
            try simp only [Act.put, List.setIfInBounds_toArray, List.set_cons_zero, List.set_cons_succ]
            refine wpAnyT_ready (rs := [28]) (by kernel_rfl) (by simp) ?_
            refine (AllReadyT.cons (o := { dst := some 156, op := Op.call { callee := Callee.value (Operand.func 27), args := #[Operand.tmp 155], argTypes := #[26] }, type := 4, pos := "laws.go:393", after := #[{ on := 27, ground := Ground.data }, { on := 26, ground := Ground.chain }, { on := 24, ground := Ground.guard }], guard := some (24, true) }) (rs := []) rfl (fun K hK => ?_) AllReadyT.nil)
            go_simp
            (refine (VG.out _ hb3).mono ?_; rintro e wv4 ⟨rfl, k⟩; have hb4 := hb3.trans (k.mono hb3.size))
            refine hK.out _ _ ?_ (fun hHeld => ?_)
            · exact Cell.out _ hb4
            clear hK K
            try simp only [Act.put, List.setIfInBounds_toArray, List.set_cons_zero, List.set_cons_succ]
            refine wpAnyT_take (i := 29) (oi := { dst := some 157, op := Op.move (Operand.tmp 156), type := 4, pos := "laws.go:393", after := #[{ on := 28, ground := Ground.data }, { on := 28, ground := Ground.chain }, { on := 24, ground := Ground.guard }], guard := some (24, true) }) (v := ?_) rfl (by kernel_rfl) (fun _ _ _ h => h) (Or.inl ⟨by rfl, ?_⟩) (by assumption) ?_
            rotate_left 1
            · intro w hSw; (try dsimp only at hSw); go_simp; try (with_reducible rfl)
            try simp only [Act.put, List.setIfInBounds_toArray, List.set_cons_zero, List.set_cons_succ]
            refine wpAnyT_take (i := 30) (oi := { dst := some 158, op := Op.move (Operand.tmp 18), type := 4, pos := "laws.go:393", after := #[{ on := 29, ground := Ground.guard }], guard := some (29, true) }) (v := ?_) rfl (by kernel_rfl) (fun _ _ _ h => h) (Or.inl ⟨by rfl, ?_⟩) (by assumption) ?_
            rotate_left 1
            · intro w hSw; (try dsimp only at hSw); go_simp; try (with_reducible rfl)
            try simp only [Act.put, List.setIfInBounds_toArray, List.set_cons_zero, List.set_cons_succ]
            refine wpAnyT_take (i := 31) (oi := { dst := some 159, op := Op.unOp UnOp.not 4 (Operand.tmp 158), type := 4, pos := "laws.go:393", after := #[{ on := 30, ground := Ground.data }, { on := 29, ground := Ground.guard }], guard := some (29, true) }) (v := ?_) rfl (by kernel_rfl) (fun _ _ _ h => h) (Or.inl ⟨by rfl, ?_⟩) (by assumption) ?_
            rotate_left 1
            · intro w hSw; (try dsimp only at hSw); go_simp; try (with_reducible rfl)
            try simp only [Act.put, List.setIfInBounds_toArray, List.set_cons_zero, List.set_cons_succ]
            refine wpAnyT_take (i := 32) (oi := { dst := some 160, op := Op.pick (Operand.tmp 157) (Operand.tmp 159) (Operand.const (Value.bool false)), type := 4, pos := "laws.go:393", after := #[{ on := 29, ground := Ground.data }, { on := 31, ground := Ground.data }, { on := 24, ground := Ground.guard }], guard := some (24, true) }) (v := ?_) rfl (by kernel_rfl) (fun _ _ _ h => h) (Or.inl ⟨by rfl, ?_⟩) (by assumption) ?_
            rotate_left 1
            · intro w hSw; (try dsimp only at hSw); go_simp; try (with_reducible rfl)
            try simp only [Act.put, List.setIfInBounds_toArray, List.set_cons_zero, List.set_cons_succ]
            refine wpAnyT_take (i := 33) (oi := { dst := some 161, op := Op.binOp BinOp.eql 4 (Operand.tmp 154) (Operand.tmp 160) 4, type := 4, pos := "laws.go:393", after := #[{ on := 26, ground := Ground.data }, { on := 32, ground := Ground.data }, { on := 24, ground := Ground.guard }], guard := some (24, true) }) (v := ?_) rfl (by kernel_rfl) (fun _ _ _ h => h) (Or.inl ⟨by rfl, ?_⟩) (by assumption) ?_
            rotate_left 1
            · intro w hSw; (try dsimp only at hSw); go_simp; try (with_reducible rfl)
            try simp only [Act.put, List.setIfInBounds_toArray, List.set_cons_zero, List.set_cons_succ]
            refine wpAnyT_take (i := 34) (oi := { dst := some 162, op := Op.pick (Operand.tmp 152) (Operand.tmp 161) (Operand.const (Value.bool false)), type := 4, pos := "laws.go:393", after := #[{ on := 24, ground := Ground.data }, { on := 33, ground := Ground.data }], guard := none }) (v := ?_) rfl (by kernel_rfl) (fun _ _ _ h => h) (Or.inl ⟨by rfl, ?_⟩) (by assumption) ?_
            rotate_left 1
            · intro w hSw; (try dsimp only at hSw); go_simp; try (with_reducible rfl)
            try simp only [Act.put, List.setIfInBounds_toArray, List.set_cons_zero, List.set_cons_succ]
            refine wpAnyT_ready (rs := [35]) (by kernel_rfl) (by simp) ?_
            refine (AllReadyT.last (o := { dst := some 2, op := Op.assign (Operand.tmp 162), type := 4, pos := "laws.go:393", after := #[{ on := 34, ground := Ground.data }, { on := 29, ground := Ground.chain }, { on := 0, ground := Ground.phase }, { on := 1, ground := Ground.phase }, { on := 2, ground := Ground.phase }, { on := 3, ground := Ground.phase }, { on := 4, ground := Ground.phase }, { on := 5, ground := Ground.phase }, { on := 6, ground := Ground.phase }, { on := 7, ground := Ground.phase }, { on := 8, ground := Ground.phase }, { on := 9, ground := Ground.phase }, { on := 10, ground := Ground.phase }, { on := 11, ground := Ground.phase }, { on := 12, ground := Ground.phase }, { on := 13, ground := Ground.phase }, { on := 14, ground := Ground.phase }, { on := 15, ground := Ground.phase }, { on := 16, ground := Ground.phase }, { on := 17, ground := Ground.phase }, { on := 18, ground := Ground.phase }, { on := 19, ground := Ground.phase }, { on := 20, ground := Ground.phase }, { on := 21, ground := Ground.phase }, { on := 22, ground := Ground.phase }, { on := 23, ground := Ground.phase }, { on := 24, ground := Ground.phase }, { on := 25, ground := Ground.phase }, { on := 26, ground := Ground.phase }, { on := 27, ground := Ground.phase }, { on := 28, ground := Ground.phase }, { on := 29, ground := Ground.phase }, { on := 30, ground := Ground.phase }, { on := 31, ground := Ground.phase }, { on := 32, ground := Ground.phase }, { on := 33, ground := Ground.phase }, { on := 34, ground := Ground.phase }], guard := none }) (rs := []) rfl (by rfl) (fun K hK => ?_) AllReadyT.nil)
            go_simp
            refine hK.out _ _ ?_
            clear hK K
            try simp only [Act.put, List.setIfInBounds_toArray, List.set_cons_zero, List.set_cons_succ]
            refine wpAnyT_done (by kernel_rfl) ?_ _
            go_wp2_with fail
            go_ret
            exact ⟨rfl, HB.out.trans (hb4.mono hle)⟩
          · rw [show (true && !true) = false from rfl] at TC
            rw [show (true && !false) = true from rfl] at TM
            rw [show (true && !true) = false from rfl] at TS
            refine (IC.out _ HBW.out).mono ?_
            rintro e w11 ⟨rfl, k⟩
            replace HBW := Lib.hid (HBW.out.trans (k.mono HBW.out.size))
            obtain ⟨m0, m1, -⟩ := Cell.out _ HBW.out
            clear k
            go_wp2_with fail
            refine (SC.out _ HBW.out).mono ?_
            rintro e w12 ⟨rfl, k⟩
            replace HBW := Lib.hid (HBW.out.trans (k.mono HBW.out.size))
            obtain ⟨m0, m1, -⟩ := Cell.out _ HBW.out
            clear k
            go_wp2_with fail
            refine (TC.out _ HBW.out).mono ?_
            rintro e w13 ⟨rfl, k⟩
            replace HBW := Lib.hid (HBW.out.trans (k.mono HBW.out.size))
            obtain ⟨m0, m1, -⟩ := Cell.out _ HBW.out
            clear k
            obtain ⟨hv, a0, b0, rfl, rfl, ha, hb, hok⟩ := Pr.fault_pair HCC.out
            obtain ⟨u, hu, hul⟩ := Pr.uni_at hv ha hb
            obtain ⟨z, hz, hzl⟩ := Pr.ovl_at hv ha hb
            have Hu := Lib.hid (fun W' => (impl_Union (a0 : Int) (b0 : Int) (Pr.good_at hv ha) (Pr.good_at hv hb) W').mono fun _ w' h => (show _ ∧ w' = W' from ⟨h.1, h.2.symm⟩))
            have Ho := Lib.hid (fun W' => (impl_Overlap (a0 : Int) (b0 : Int) (Pr.good_at hv ha) (Pr.good_at hv hb) W').mono fun _ w' h => (show _ ∧ w' = W' from ⟨h.1, h.2.symm⟩))
            rw [hu] at Hu
            rw [hz] at Ho
            have Va := Lib.hid (Vl.out a0 ha)
            have Vb := Lib.hid (Vl.out b0 hb)
            have Vu := Lib.hid (Vl.out u hul)
            have Vz := Lib.hid (Vl.out z hzl)
            have ba := Gm.vld_at hv ha
            have bb := Gm.vld_at hv hb
            have bu := Gm.vld_at hv hul
            have bz := Gm.vld_at hv hzl
            have hgt : ¬ (g.v.getD a0 0 + g.v.getD b0 0 ≤ g.v.getD u 0 + g.v.getD z 0) := by unfold Pr.okC Pr.at' at hok; rw [hu, hz, Int.toNat_natCast, Int.toNat_natCast] at hok; exact of_decide_eq_false hok
            have hl := Gm.vld_len hv
            have l1 : a0 < 32 := by omega
            have l2 : b0 < 32 := by omega
            have l3 : u < 32 := by omega
            have l4 : z < 32 := by omega
            clear hv hu hz hok hl Vl ha hb hul hzl
            generalize g.v.getD a0 0 = X at *
            generalize g.v.getD b0 0 = Y at *
            generalize g.v.getD u 0 = Z at *
            generalize g.v.getD z 0 = U at *
            have hw1 : IntKind.i64.wrap (X + Y) = X + Y := IntWalk.i64_in _ (by omega)
            have hw2 : IntKind.i64.wrap (Z + U) = Z + U := IntWalk.i64_in _ (by omega)
            have hd : decide (X + Y ≤ Z + U) = false := decide_eq_false hgt
            clear hgt
            go_upto_region 8 with fail
            have hb0 := HBW.out.drew
            refine wp_region_T_drew (S := (fun w' => w'.cell? ⟨q, 0, none⟩ = some x ∧ w'.cell? ⟨q, 1, none⟩ = some v ∧ Below W.heap.size W w')) 21 (by kernel_rfl) ?_ (fun hHeld => ?_)
            · exact Cell.out _ hb0
            refine wpAnyT_take (i := 0) (oi := { dst := some 60, op := Op.move (Operand.tmp 6), type := 4, pos := "laws.go:383", after := #[], guard := none }) (v := ?_) rfl (by kernel_rfl) (fun _ _ _ h => h) (Or.inl ⟨by rfl, ?_⟩) (by assumption) ?_
            rotate_left 1
            · intro w hSw; (try dsimp only at hSw); go_simp; try (with_reducible rfl)
            try simp only [Act.put, List.setIfInBounds_toArray, List.set_cons_zero, List.set_cons_succ]
            refine wpAnyT_take (i := 1) (oi := { dst := some 61, op := Op.move (Operand.tmp 60), type := 4, pos := "laws.go:383", after := #[{ on := 0, ground := Ground.data }], guard := none }) (v := ?_) rfl (by kernel_rfl) (fun _ _ _ h => h) (Or.inl ⟨by rfl, ?_⟩) (by assumption) ?_
            rotate_left 1
            · intro w hSw; (try dsimp only at hSw); go_simp; try (with_reducible rfl)
            try simp only [Act.put, List.setIfInBounds_toArray, List.set_cons_zero, List.set_cons_succ]
            refine wpAnyT_take (i := 2) (oi := { dst := some 62, op := Op.load 26 (Operand.tmp 3), type := 26, pos := "laws.go:383", after := #[{ on := 1, ground := Ground.guard }], guard := some (1, true) }) (v := ?_) rfl (by kernel_rfl) (fun _ _ _ h => h) (Or.inl ⟨by rfl, ?_⟩) (by assumption) ?_
            rotate_left 1
            · intro w hSw; (try dsimp only at hSw); go_simp; try (with_reducible rfl)
            try simp only [Act.put, List.setIfInBounds_toArray, List.set_cons_zero, List.set_cons_succ]
            refine wpAnyT_take (i := 3) (oi := { dst := some 63, op := Op.move (Operand.tmp 4), type := 3, pos := "laws.go:383", after := #[{ on := 1, ground := Ground.guard }], guard := some (1, true) }) (v := ?_) rfl (by kernel_rfl) (fun _ _ _ h => h) (Or.inl ⟨by rfl, ?_⟩) (by assumption) ?_
            rotate_left 1
            · intro w hSw; (try dsimp only at hSw); go_simp; try (with_reducible rfl)
            try simp only [Act.put, List.setIfInBounds_toArray, List.set_cons_zero, List.set_cons_succ]
            refine wpAnyT_take (i := 5) (oi := { dst := some 65, op := Op.load 26 (Operand.tmp 3), type := 26, pos := "laws.go:383", after := #[{ on := 1, ground := Ground.guard }], guard := some (1, true) }) (v := ?_) rfl (by kernel_rfl) (fun _ _ _ h => h) (Or.inl ⟨by rfl, ?_⟩) (by assumption) ?_
            rotate_left 1
            · intro w hSw; (try dsimp only at hSw); go_simp; try (with_reducible rfl)
            try simp only [Act.put, List.setIfInBounds_toArray, List.set_cons_zero, List.set_cons_succ]
            refine wpAnyT_take (i := 6) (oi := { dst := some 66, op := Op.move (Operand.tmp 5), type := 3, pos := "laws.go:383", after := #[{ on := 1, ground := Ground.guard }], guard := some (1, true) }) (v := ?_) rfl (by kernel_rfl) (fun _ _ _ h => h) (Or.inl ⟨by rfl, ?_⟩) (by assumption) ?_
            rotate_left 1
            · intro w hSw; (try dsimp only at hSw); go_simp; try (with_reducible rfl)
            try simp only [Act.put, List.setIfInBounds_toArray, List.set_cons_zero, List.set_cons_succ]
            refine wpAnyT_take (i := 9) (oi := { dst := some 69, op := Op.load 26 (Operand.tmp 3), type := 26, pos := "laws.go:383", after := #[{ on := 1, ground := Ground.guard }], guard := some (1, true) }) (v := ?_) rfl (by kernel_rfl) (fun _ _ _ h => h) (Or.inl ⟨by rfl, ?_⟩) (by assumption) ?_
            rotate_left 1
            · intro w hSw; (try dsimp only at hSw); go_simp; try (with_reducible rfl)
            try simp only [Act.put, List.setIfInBounds_toArray, List.set_cons_zero, List.set_cons_succ]
            refine wpAnyT_take (i := 10) (oi := { dst := some 70, op := Op.move (Operand.tmp 4), type := 3, pos := "laws.go:383", after := #[{ on := 1, ground := Ground.guard }], guard := some (1, true) }) (v := ?_) rfl (by kernel_rfl) (fun _ _ _ h => h) (Or.inl ⟨by rfl, ?_⟩) (by assumption) ?_
            rotate_left 1
            · intro w hSw; (try dsimp only at hSw); go_simp; try (with_reducible rfl)
            try simp only [Act.put, List.setIfInBounds_toArray, List.set_cons_zero, List.set_cons_succ]
            refine wpAnyT_take (i := 11) (oi := { dst := some 71, op := Op.move (Operand.tmp 5), type := 3, pos := "laws.go:383", after := #[{ on := 1, ground := Ground.guard }], guard := some (1, true) }) (v := ?_) rfl (by kernel_rfl) (fun _ _ _ h => h) (Or.inl ⟨by rfl, ?_⟩) (by assumption) ?_
            rotate_left 1
            · intro w hSw; (try dsimp only at hSw); go_simp; try (with_reducible rfl)
            try simp only [Act.put, List.setIfInBounds_toArray, List.set_cons_zero, List.set_cons_succ]
            refine wpAnyT_take (i := 14) (oi := { dst := some 74, op := Op.load 26 (Operand.tmp 3), type := 26, pos := "laws.go:383", after := #[{ on := 1, ground := Ground.guard }], guard := some (1, true) }) (v := ?_) rfl (by kernel_rfl) (fun _ _ _ h => h) (Or.inl ⟨by rfl, ?_⟩) (by assumption) ?_
            rotate_left 1
            · intro w hSw; (try dsimp only at hSw); go_simp; try (with_reducible rfl)
            try simp only [Act.put, List.setIfInBounds_toArray, List.set_cons_zero, List.set_cons_succ]
            refine wpAnyT_take (i := 15) (oi := { dst := some 75, op := Op.move (Operand.tmp 4), type := 3, pos := "laws.go:383", after := #[{ on := 1, ground := Ground.guard }], guard := some (1, true) }) (v := ?_) rfl (by kernel_rfl) (fun _ _ _ h => h) (Or.inl ⟨by rfl, ?_⟩) (by assumption) ?_
            rotate_left 1
            · intro w hSw; (try dsimp only at hSw); go_simp; try (with_reducible rfl)
            try simp only [Act.put, List.setIfInBounds_toArray, List.set_cons_zero, List.set_cons_succ]
            refine wpAnyT_take (i := 16) (oi := { dst := some 76, op := Op.move (Operand.tmp 5), type := 3, pos := "laws.go:383", after := #[{ on := 1, ground := Ground.guard }], guard := some (1, true) }) (v := ?_) rfl (by kernel_rfl) (fun _ _ _ h => h) (Or.inl ⟨by rfl, ?_⟩) (by assumption) ?_
            rotate_left 1
            · intro w hSw; (try dsimp only at hSw); go_simp; try (with_reducible rfl)
            try simp only [Act.put, List.setIfInBounds_toArray, List.set_cons_zero, List.set_cons_succ]
            refine wpAnyT_ready (rs := [4]) (by kernel_rfl) (by simp) ?_
            refine (AllReadyT.cons (o := { dst := some 64, op := Op.call { callee := Callee.value (Operand.func 18), args := #[Operand.tmp 62, Operand.tmp 63], argTypes := #[26, 3] }, type := 3, pos := "laws.go:383", after := #[{ on := 2, ground := Ground.data }, { on := 3, ground := Ground.data }, { on := 1, ground := Ground.chain }, { on := 1, ground := Ground.guard }], guard := some (1, true) }) (rs := []) rfl (fun K hK => ?_) AllReadyT.nil)
            go_simp
            (refine (Va.out _ hb0).mono ?_; rintro e wv1 ⟨rfl, k⟩; have hb1 := hb0.trans (k.mono hb0.size))
            refine hK.out _ _ ?_ (fun hHeld => ?_)
            · exact Cell.out _ hb1
            clear hK K
            try simp only [Act.put, List.setIfInBounds_toArray, List.set_cons_zero, List.set_cons_succ]
            refine wpAnyT_ready (rs := [7]) (by kernel_rfl) (by simp) ?_
            refine (AllReadyT.cons (o := { dst := some 67, op := Op.call { callee := Callee.value (Operand.func 18), args := #[Operand.tmp 65, Operand.tmp 66], argTypes := #[26, 3] }, type := 3, pos := "laws.go:383", after := #[{ on := 5, ground := Ground.data }, { on := 6, ground := Ground.data }, { on := 4, ground := Ground.chain }, { on := 1, ground := Ground.guard }], guard := some (1, true) }) (rs := []) rfl (fun K hK => ?_) AllReadyT.nil)
            go_simp
            (refine (Vb.out _ hb1).mono ?_; rintro e wv2 ⟨rfl, k⟩; have hb2 := hb1.trans (k.mono hb1.size))
            refine hK.out _ _ ?_ (fun hHeld => ?_)
            · exact Cell.out _ hb2
            clear hK K
            try simp only [Act.put, List.setIfInBounds_toArray, List.set_cons_zero, List.set_cons_succ]
            refine wpAnyT_take (i := 8) (oi := { dst := some 68, op := Op.binOp BinOp.add 3 (Operand.tmp 64) (Operand.tmp 67) 3, type := 3, pos := "laws.go:383", after := #[{ on := 4, ground := Ground.data }, { on := 7, ground := Ground.data }, { on := 1, ground := Ground.guard }], guard := some (1, true) }) (v := ?_) rfl (by kernel_rfl) (fun _ _ _ h => h) (Or.inl ⟨by rfl, ?_⟩) (by assumption) ?_
            rotate_left 1
            · intro w hSw; (try dsimp only at hSw); go_simp; try (with_reducible rfl)
            try simp only [Act.put, List.setIfInBounds_toArray, List.set_cons_zero, List.set_cons_succ]
            refine wpAnyT_ready (rs := [12]) (by kernel_rfl) (by simp) ?_
            refine (AllReadyT.cons (o := { dst := some 72, op := Op.call { callee := Callee.value (Operand.func 19), args := #[Operand.tmp 70, Operand.tmp 71], argTypes := #[3, 3] }, type := 3, pos := "laws.go:383", after := #[{ on := 10, ground := Ground.data }, { on := 11, ground := Ground.data }, { on := 7, ground := Ground.chain }, { on := 1, ground := Ground.guard }], guard := some (1, true) }) (rs := []) rfl (fun K hK => ?_) AllReadyT.nil)
            go_simp
            (refine (Hu.out _).mono ?_; rintro e wu ⟨rfl, rfl⟩)
            refine hK.out _ _ ?_ (fun hHeld => ?_)
            · exact Cell.out _ hb2
            clear hK K
            try simp only [Act.put, List.setIfInBounds_toArray, List.set_cons_zero, List.set_cons_succ]
            refine wpAnyT_ready (rs := [13]) (by kernel_rfl) (by simp) ?_
            refine (AllReadyT.cons (o := { dst := some 73, op := Op.call { callee := Callee.value (Operand.func 18), args := #[Operand.tmp 69, Operand.tmp 72], argTypes := #[26, 3] }, type := 3, pos := "laws.go:383", after := #[{ on := 9, ground := Ground.data }, { on := 12, ground := Ground.data }, { on := 12, ground := Ground.chain }, { on := 1, ground := Ground.guard }], guard := some (1, true) }) (rs := []) rfl (fun K hK => ?_) AllReadyT.nil)
            go_simp
            (refine (Vu.out _ hb2).mono ?_; rintro e wv3 ⟨rfl, k⟩; have hb3 := hb2.trans (k.mono hb2.size))
            refine hK.out _ _ ?_ (fun hHeld => ?_)
            · exact Cell.out _ hb3
            clear hK K
            try simp only [Act.put, List.setIfInBounds_toArray, List.set_cons_zero, List.set_cons_succ]
            refine wpAnyT_ready (rs := [17]) (by kernel_rfl) (by simp) ?_
            refine (AllReadyT.cons (o := { dst := some 77, op := Op.call { callee := Callee.value (Operand.func 20), args := #[Operand.tmp 75, Operand.tmp 76], argTypes := #[3, 3] }, type := 3, pos := "laws.go:383", after := #[{ on := 15, ground := Ground.data }, { on := 16, ground := Ground.data }, { on := 13, ground := Ground.chain }, { on := 1, ground := Ground.guard }], guard := some (1, true) }) (rs := []) rfl (fun K hK => ?_) AllReadyT.nil)
            go_simp
            (refine (Ho.out _).mono ?_; rintro e wo ⟨rfl, rfl⟩)
            refine hK.out _ _ ?_ (fun hHeld => ?_)
            · exact Cell.out _ hb3
            clear hK K
            try simp only [Act.put, List.setIfInBounds_toArray, List.set_cons_zero, List.set_cons_succ]
            refine wpAnyT_ready (rs := [18]) (by kernel_rfl) (by simp) ?_
            refine (AllReadyT.cons (o := { dst := some 78, op := Op.call { callee := Callee.value (Operand.func 18), args := #[Operand.tmp 74, Operand.tmp 77], argTypes := #[26, 3] }, type := 3, pos := "laws.go:383", after := #[{ on := 14, ground := Ground.data }, { on := 17, ground := Ground.data }, { on := 17, ground := Ground.chain }, { on := 1, ground := Ground.guard }], guard := some (1, true) }) (rs := []) rfl (fun K hK => ?_) AllReadyT.nil)
            go_simp
            (refine (Vz.out _ hb3).mono ?_; rintro e wv4 ⟨rfl, k⟩; have hb4 := hb3.trans (k.mono hb3.size))
            refine hK.out _ _ ?_ (fun hHeld => ?_)
            · exact Cell.out _ hb4
            clear hK K
            try simp only [Act.put, List.setIfInBounds_toArray, List.set_cons_zero, List.set_cons_succ]
            refine wpAnyT_take (i := 19) (oi := { dst := some 79, op := Op.binOp BinOp.add 3 (Operand.tmp 73) (Operand.tmp 78) 3, type := 3, pos := "laws.go:383", after := #[{ on := 13, ground := Ground.data }, { on := 18, ground := Ground.data }, { on := 1, ground := Ground.guard }], guard := some (1, true) }) (v := ?_) rfl (by kernel_rfl) (fun _ _ _ h => h) (Or.inl ⟨by rfl, ?_⟩) (by assumption) ?_
            rotate_left 1
            · intro w hSw; (try dsimp only at hSw); go_simp; try (with_reducible rfl)
            try simp only [Act.put, List.setIfInBounds_toArray, List.set_cons_zero, List.set_cons_succ]
            refine wpAnyT_take (i := 20) (oi := { dst := some 80, op := Op.binOp BinOp.leq 3 (Operand.tmp 68) (Operand.tmp 79) 3, type := 4, pos := "laws.go:383", after := #[{ on := 8, ground := Ground.data }, { on := 19, ground := Ground.data }, { on := 1, ground := Ground.guard }], guard := some (1, true) }) (v := ?_) rfl (by kernel_rfl) (fun _ _ _ h => h) (Or.inl ⟨by rfl, ?_⟩) (by assumption) ?_
            rotate_left 1
            · intro w hSw; (try dsimp only at hSw); go_simp; try (with_reducible rfl)
            try simp only [Act.put, List.setIfInBounds_toArray, List.set_cons_zero, List.set_cons_succ]
            refine wpAnyT_ready (rs := [21]) (by kernel_rfl) (by simp) ?_
            refine (AllReadyT.last (o := { dst := some 81, op := Op.pick (Operand.tmp 61) (Operand.tmp 80) (Operand.const (Value.bool false)), type := 4, pos := "laws.go:383", after := #[{ on := 1, ground := Ground.data }, { on := 20, ground := Ground.data }], guard := none }) (rs := []) rfl (by rfl) (fun K hK => ?_) AllReadyT.nil)
            go_simp
            refine hK.out _ _ ?_
            clear hK K
            try simp only [Act.put, List.setIfInBounds_toArray, List.set_cons_zero, List.set_cons_succ]
            refine wpAnyT_done (by kernel_rfl) ?_ _
            replace HBW := Lib.hid hb4
            obtain ⟨m0, m1, -⟩ := Cell.out _ HBW.out
            go_wp2_with fail
            refine (IM.out _ HBW.out).mono ?_
            rintro e w14 ⟨rfl, k⟩
            replace HBW := Lib.hid (HBW.out.trans (k.mono HBW.out.size))
            obtain ⟨m0, m1, -⟩ := Cell.out _ HBW.out
            clear k
            go_wp2_with fail
            refine (SM.out _ HBW.out).mono ?_
            rintro e w15 ⟨rfl, k⟩
            replace HBW := Lib.hid (HBW.out.trans (k.mono HBW.out.size))
            obtain ⟨m0, m1, -⟩ := Cell.out _ HBW.out
            clear k
            go_wp2_with fail
            refine (IS.out _ HBW.out).mono ?_
            rintro e w16 ⟨rfl, k⟩
            replace HBW := Lib.hid (HBW.out.trans (k.mono HBW.out.size))
            obtain ⟨m0, m1, -⟩ := Cell.out _ HBW.out
            clear k
            go_wp2_with fail
            refine (SS.out _ HBW.out).mono ?_
            rintro e w17 ⟨rfl, k⟩
            replace HBW := Lib.hid (HBW.out.trans (k.mono HBW.out.size))
            obtain ⟨m0, m1, -⟩ := Cell.out _ HBW.out
            clear k
            go_upto_region 16 with fail
            have hb0 := HBW.out.drew
            refine wp_region_T_drew (S := (fun w' => w'.cell? ⟨q, 0, none⟩ = some x ∧ w'.cell? ⟨q, 1, none⟩ = some v ∧ Below W.heap.size W w')) 35 (by kernel_rfl) ?_ (fun hHeld => ?_)
            · exact Cell.out _ hb0
            refine wpAnyT_take (i := 0) (oi := { dst := some 128, op := Op.move (Operand.tmp 16), type := 3, pos := "laws.go:393", after := #[], guard := none }) (v := ?_) rfl (by kernel_rfl) (fun _ _ _ h => h) (Or.inl ⟨by rfl, ?_⟩) (by assumption) ?_
            rotate_left 1
            · intro w hSw; (try dsimp only at hSw); go_simp; try (with_reducible rfl)
            try simp only [Act.put, List.setIfInBounds_toArray, List.set_cons_zero, List.set_cons_succ]
            refine wpAnyT_take (i := 1) (oi := { dst := some 129, op := Op.move (Operand.tmp 19), type := 3, pos := "laws.go:393", after := #[], guard := none }) (v := ?_) rfl (by kernel_rfl) (fun _ _ _ h => h) (Or.inl ⟨by rfl, ?_⟩) (by assumption) ?_
            rotate_left 1
            · intro w hSw; (try dsimp only at hSw); go_simp; try (with_reducible rfl)
            try simp only [Act.put, List.setIfInBounds_toArray, List.set_cons_zero, List.set_cons_succ]
            refine wpAnyT_take (i := 2) (oi := { dst := some 130, op := Op.binOp BinOp.eql 3 (Operand.tmp 128) (Operand.tmp 129) 3, type := 4, pos := "laws.go:393", after := #[{ on := 0, ground := Ground.data }, { on := 1, ground := Ground.data }], guard := none }) (v := ?_) rfl (by kernel_rfl) (fun _ _ _ h => h) (Or.inl ⟨by rfl, ?_⟩) (by assumption) ?_
            rotate_left 1
            · intro w hSw; (try dsimp only at hSw); go_simp; try (with_reducible rfl)
            try simp only [Act.put, List.setIfInBounds_toArray, List.set_cons_zero, List.set_cons_succ]
            refine wpAnyT_take (i := 3) (oi := { dst := some 131, op := Op.move (Operand.tmp 130), type := 4, pos := "laws.go:393", after := #[{ on := 2, ground := Ground.data }], guard := none }) (v := ?_) rfl (by kernel_rfl) (fun _ _ _ h => h) (Or.inl ⟨by rfl, ?_⟩) (by assumption) ?_
            rotate_left 1
            · intro w hSw; (try dsimp only at hSw); go_simp; try (with_reducible rfl)
            try simp only [Act.put, List.setIfInBounds_toArray, List.set_cons_zero, List.set_cons_succ]
            refine wpAnyT_take (i := 4) (oi := { dst := some 132, op := Op.move (Operand.tmp 17), type := 3, pos := "laws.go:393", after := #[{ on := 3, ground := Ground.guard }], guard := some (3, true) }) (v := ?_) rfl (by kernel_rfl) (fun _ _ _ h => h) (Or.inl ⟨by rfl, ?_⟩) (by assumption) ?_
            rotate_left 1
            · intro w hSw; (try dsimp only at hSw); go_simp; try (with_reducible rfl)
            try simp only [Act.put, List.setIfInBounds_toArray, List.set_cons_zero, List.set_cons_succ]
            refine wpAnyT_take (i := 5) (oi := { dst := some 133, op := Op.move (Operand.tmp 20), type := 3, pos := "laws.go:393", after := #[{ on := 3, ground := Ground.guard }], guard := some (3, true) }) (v := ?_) rfl (by kernel_rfl) (fun _ _ _ h => h) (Or.inl ⟨by rfl, ?_⟩) (by assumption) ?_
            rotate_left 1
            · intro w hSw; (try dsimp only at hSw); go_simp; try (with_reducible rfl)
            try simp only [Act.put, List.setIfInBounds_toArray, List.set_cons_zero, List.set_cons_succ]
            refine wpAnyT_take (i := 6) (oi := { dst := some 134, op := Op.binOp BinOp.eql 3 (Operand.tmp 132) (Operand.tmp 133) 3, type := 4, pos := "laws.go:393", after := #[{ on := 4, ground := Ground.data }, { on := 5, ground := Ground.data }, { on := 3, ground := Ground.guard }], guard := some (3, true) }) (v := ?_) rfl (by kernel_rfl) (fun _ _ _ h => h) (Or.inl ⟨by rfl, ?_⟩) (by assumption) ?_
            rotate_left 1
            · intro w hSw; (try dsimp only at hSw); go_simp; try (with_reducible rfl)
            try simp only [Act.put, List.setIfInBounds_toArray, List.set_cons_zero, List.set_cons_succ]
            refine wpAnyT_take (i := 7) (oi := { dst := some 135, op := Op.pick (Operand.tmp 131) (Operand.tmp 134) (Operand.const (Value.bool false)), type := 4, pos := "laws.go:393", after := #[{ on := 3, ground := Ground.data }, { on := 6, ground := Ground.data }], guard := none }) (v := ?_) rfl (by kernel_rfl) (fun _ _ _ h => h) (Or.inl ⟨by rfl, ?_⟩) (by assumption) ?_
            rotate_left 1
            · intro w hSw; (try dsimp only at hSw); go_simp; try (with_reducible rfl)
            try simp only [Act.put, List.setIfInBounds_toArray, List.set_cons_zero, List.set_cons_succ]
            refine wpAnyT_take (i := 8) (oi := { dst := some 136, op := Op.move (Operand.tmp 135), type := 4, pos := "laws.go:393", after := #[{ on := 7, ground := Ground.data }, { on := 3, ground := Ground.chain }], guard := none }) (v := ?_) rfl (by kernel_rfl) (fun _ _ _ h => h) (Or.inl ⟨by rfl, ?_⟩) (by assumption) ?_
            rotate_left 1
            · intro w hSw; (try dsimp only at hSw); go_simp; try (with_reducible rfl)
            try simp only [Act.put, List.setIfInBounds_toArray, List.set_cons_zero, List.set_cons_succ]
            refine wpAnyT_take (i := 9) (oi := { dst := some 137, op := Op.move (Operand.tmp 18), type := 4, pos := "laws.go:393", after := #[{ on := 8, ground := Ground.guard }], guard := some (8, true) }) (v := ?_) rfl (by kernel_rfl) (fun _ _ _ h => h) (Or.inl ⟨by rfl, ?_⟩) (by assumption) ?_
            rotate_left 1
            · intro w hSw; (try dsimp only at hSw); go_simp; try (with_reducible rfl)
            try simp only [Act.put, List.setIfInBounds_toArray, List.set_cons_zero, List.set_cons_succ]
            refine wpAnyT_take (i := 10) (oi := { dst := some 138, op := Op.move (Operand.tmp 21), type := 4, pos := "laws.go:393", after := #[{ on := 8, ground := Ground.guard }], guard := some (8, true) }) (v := ?_) rfl (by kernel_rfl) (fun _ _ _ h => h) (Or.inl ⟨by rfl, ?_⟩) (by assumption) ?_
            rotate_left 1
            · intro w hSw; (try dsimp only at hSw); go_simp; try (with_reducible rfl)
            try simp only [Act.put, List.setIfInBounds_toArray, List.set_cons_zero, List.set_cons_succ]
            refine wpAnyT_take (i := 11) (oi := { dst := some 139, op := Op.binOp BinOp.eql 4 (Operand.tmp 137) (Operand.tmp 138) 4, type := 4, pos := "laws.go:393", after := #[{ on := 9, ground := Ground.data }, { on := 10, ground := Ground.data }, { on := 8, ground := Ground.guard }], guard := some (8, true) }) (v := ?_) rfl (by kernel_rfl) (fun _ _ _ h => h) (Or.inl ⟨by rfl, ?_⟩) (by assumption) ?_
            rotate_left 1
            · intro w hSw; (try dsimp only at hSw); go_simp; try (with_reducible rfl)
            try simp only [Act.put, List.setIfInBounds_toArray, List.set_cons_zero, List.set_cons_succ]
            refine wpAnyT_take (i := 12) (oi := { dst := some 140, op := Op.pick (Operand.tmp 136) (Operand.tmp 139) (Operand.const (Value.bool false)), type := 4, pos := "laws.go:393", after := #[{ on := 8, ground := Ground.data }, { on := 11, ground := Ground.data }], guard := none }) (v := ?_) rfl (by kernel_rfl) (fun _ _ _ h => h) (Or.inl ⟨by rfl, ?_⟩) (by assumption) ?_
            rotate_left 1
            · intro w hSw; (try dsimp only at hSw); go_simp; try (with_reducible rfl)
            try simp only [Act.put, List.setIfInBounds_toArray, List.set_cons_zero, List.set_cons_succ]
            refine wpAnyT_take (i := 13) (oi := { dst := some 141, op := Op.move (Operand.tmp 140), type := 4, pos := "laws.go:393", after := #[{ on := 12, ground := Ground.data }, { on := 8, ground := Ground.chain }], guard := none }) (v := ?_) rfl (by kernel_rfl) (fun _ _ _ h => h) (Or.inl ⟨by rfl, ?_⟩) (by assumption) ?_
            rotate_left 1
            · intro w hSw; (try dsimp only at hSw); go_simp; try (with_reducible rfl)
            try simp only [Act.put, List.setIfInBounds_toArray, List.set_cons_zero, List.set_cons_succ]
            refine wpAnyT_take (i := 14) (oi := { dst := some 142, op := Op.load 26 (Operand.tmp 3), type := 26, pos := "laws.go:393", after := #[{ on := 13, ground := Ground.guard }], guard := some (13, true) }) (v := ?_) rfl (by kernel_rfl) (fun _ _ _ h => h) (Or.inl ⟨by rfl, ?_⟩) (by assumption) ?_
            rotate_left 1
            · intro w hSw; (try dsimp only at hSw); go_simp; try (with_reducible rfl)
            try simp only [Act.put, List.setIfInBounds_toArray, List.set_cons_zero, List.set_cons_succ]
            refine wpAnyT_take (i := 16) (oi := { dst := some 144, op := Op.load 26 (Operand.tmp 3), type := 26, pos := "laws.go:393", after := #[{ on := 13, ground := Ground.guard }], guard := some (13, true) }) (v := ?_) rfl (by kernel_rfl) (fun _ _ _ h => h) (Or.inl ⟨by rfl, ?_⟩) (by assumption) ?_
            rotate_left 1
            · intro w hSw; (try dsimp only at hSw); go_simp; try (with_reducible rfl)
            try simp only [Act.put, List.setIfInBounds_toArray, List.set_cons_zero, List.set_cons_succ]
            refine wpAnyT_ready (rs := [15]) (by kernel_rfl) (by simp) ?_
            refine (AllReadyT.cons (o := { dst := some 143, op := Op.call { callee := Callee.value (Operand.func 26), args := #[Operand.tmp 142], argTypes := #[26] }, type := 4, pos := "laws.go:393", after := #[{ on := 14, ground := Ground.data }, { on := 13, ground := Ground.chain }, { on := 13, ground := Ground.guard }], guard := some (13, true) }) (rs := []) rfl (fun K hK => ?_) AllReadyT.nil)
            go_simp
            (refine (TM.out _ hb0).mono ?_; rintro e wv1 ⟨rfl, k⟩; have hb1 := hb0.trans (k.mono hb0.size))
            refine hK.out _ _ ?_ (fun hHeld => ?_)
            · exact Cell.out _ hb1
            clear hK K
            try simp only [Act.put, List.setIfInBounds_toArray, List.set_cons_zero, List.set_cons_succ]
            refine wpAnyT_ready (rs := [17]) (by kernel_rfl) (by simp) ?_
            refine (AllReadyT.cons (o := { dst := some 145, op := Op.call { callee := Callee.value (Operand.func 27), args := #[Operand.tmp 144], argTypes := #[26] }, type := 4, pos := "laws.go:393", after := #[{ on := 16, ground := Ground.data }, { on := 15, ground := Ground.chain }, { on := 13, ground := Ground.guard }], guard := some (13, true) }) (rs := []) rfl (fun K hK => ?_) AllReadyT.nil)
            go_simp
            (refine (VG.out _ hb1).mono ?_; rintro e wv2 ⟨rfl, k⟩; have hb2 := hb1.trans (k.mono hb1.size))
            refine hK.out _ _ ?_ (fun hHeld => ?_)
            · exact Cell.out _ hb2
            clear hK K
            try simp only [Act.put, List.setIfInBounds_toArray, List.set_cons_zero, List.set_cons_succ]
            refine wpAnyT_take (i := 18) (oi := { dst := some 146, op := Op.move (Operand.tmp 145), type := 4, pos := "laws.go:393", after := #[{ on := 17, ground := Ground.data }, { on := 17, ground := Ground.chain }, { on := 13, ground := Ground.guard }], guard := some (13, true) }) (v := ?_) rfl (by kernel_rfl) (fun _ _ _ h => h) (Or.inl ⟨by rfl, ?_⟩) (by assumption) ?_
            rotate_left 1
            · intro w hSw; (try dsimp only at hSw); go_simp; try (with_reducible rfl)
            try simp only [Act.put, List.setIfInBounds_toArray, List.set_cons_zero, List.set_cons_succ]
            refine wpAnyT_take (i := 19) (oi := { dst := some 147, op := Op.move (Operand.tmp 12), type := 4, pos := "laws.go:393", after := #[{ on := 18, ground := Ground.guard }], guard := some (18, true) }) (v := ?_) rfl (by kernel_rfl) (fun _ _ _ h => h) (Or.inl ⟨by rfl, ?_⟩) (by assumption) ?_
            rotate_left 1
            · intro w hSw; (try dsimp only at hSw); go_simp; try (with_reducible rfl)
            try simp only [Act.put, List.setIfInBounds_toArray, List.set_cons_zero, List.set_cons_succ]
            refine wpAnyT_take (i := 20) (oi := { dst := some 148, op := Op.unOp UnOp.not 4 (Operand.tmp 147), type := 4, pos := "laws.go:393", after := #[{ on := 19, ground := Ground.data }, { on := 18, ground := Ground.guard }], guard := some (18, true) }) (v := ?_) rfl (by kernel_rfl) (fun _ _ _ h => h) (Or.inl ⟨by rfl, ?_⟩) (by assumption) ?_
            rotate_left 1
            · intro w hSw; (try dsimp only at hSw); go_simp; try (with_reducible rfl)
            try simp only [Act.put, List.setIfInBounds_toArray, List.set_cons_zero, List.set_cons_succ]
            refine wpAnyT_take (i := 21) (oi := { dst := some 149, op := Op.pick (Operand.tmp 146) (Operand.tmp 148) (Operand.const (Value.bool false)), type := 4, pos := "laws.go:393", after := #[{ on := 18, ground := Ground.data }, { on := 20, ground := Ground.data }, { on := 13, ground := Ground.guard }], guard := some (13, true) }) (v := ?_) rfl (by kernel_rfl) (fun _ _ _ h => h) (Or.inl ⟨by rfl, ?_⟩) (by assumption) ?_
            rotate_left 1
            · intro w hSw; (try dsimp only at hSw); go_simp; try (with_reducible rfl)
            try simp only [Act.put, List.setIfInBounds_toArray, List.set_cons_zero, List.set_cons_succ]
            refine wpAnyT_take (i := 22) (oi := { dst := some 150, op := Op.binOp BinOp.eql 4 (Operand.tmp 143) (Operand.tmp 149) 4, type := 4, pos := "laws.go:393", after := #[{ on := 15, ground := Ground.data }, { on := 21, ground := Ground.data }, { on := 13, ground := Ground.guard }], guard := some (13, true) }) (v := ?_) rfl (by kernel_rfl) (fun _ _ _ h => h) (Or.inl ⟨by rfl, ?_⟩) (by assumption) ?_
            rotate_left 1
            · intro w hSw; (try dsimp only at hSw); go_simp; try (with_reducible rfl)
            try simp only [Act.put, List.setIfInBounds_toArray, List.set_cons_zero, List.set_cons_succ]
            refine wpAnyT_take (i := 23) (oi := { dst := some 151, op := Op.pick (Operand.tmp 141) (Operand.tmp 150) (Operand.const (Value.bool false)), type := 4, pos := "laws.go:393", after := #[{ on := 13, ground := Ground.data }, { on := 22, ground := Ground.data }], guard := none }) (v := ?_) rfl (by kernel_rfl) (fun _ _ _ h => h) (Or.inl ⟨by rfl, ?_⟩) (by assumption) ?_
            rotate_left 1
            · intro w hSw; (try dsimp only at hSw); go_simp; try (with_reducible rfl)
            try simp only [Act.put, List.setIfInBounds_toArray, List.set_cons_zero, List.set_cons_succ]
            refine wpAnyT_take (i := 24) (oi := { dst := some 152, op := Op.move (Operand.tmp 151), type := 4, pos := "laws.go:393", after := #[{ on := 23, ground := Ground.data }, { on := 18, ground := Ground.chain }], guard := none }) (v := ?_) rfl (by kernel_rfl) (fun _ _ _ h => h) (Or.inl ⟨by rfl, ?_⟩) (by assumption) ?_
            rotate_left 1
            · intro w hSw; (try dsimp only at hSw); go_simp; try (with_reducible rfl)
            try simp only [Act.put, List.setIfInBounds_toArray, List.set_cons_zero, List.set_cons_succ]
            refine wpAnyT_take (i := 25) (oi := { dst := some 153, op := Op.load 26 (Operand.tmp 3), type := 26, pos := "laws.go:393", after := #[{ on := 24, ground := Ground.guard }], guard := some (24, true) }) (v := ?_) rfl (by kernel_rfl) (fun _ _ _ h => h) (Or.inl ⟨by rfl, ?_⟩) (by assumption) ?_
            rotate_left 1
            · intro w hSw; (try dsimp only at hSw); go_simp; try (with_reducible rfl)
            try simp only [Act.put, List.setIfInBounds_toArray, List.set_cons_zero, List.set_cons_succ]
            refine wpAnyT_take (i := 27) (oi := { dst := some 155, op := Op.load 26 (Operand.tmp 3), type := 26, pos := "laws.go:393", after := #[{ on := 24, ground := Ground.guard }], guard := some (24, true) }) (v := ?_) rfl (by kernel_rfl) (fun _ _ _ h => h) (Or.inl ⟨by rfl, ?_⟩) (by assumption) ?_
            rotate_left 1
            · intro w hSw; (try dsimp only at hSw); go_simp; try (with_reducible rfl)
            try simp only [Act.put, List.setIfInBounds_toArray, List.set_cons_zero, List.set_cons_succ]
            refine wpAnyT_ready (rs := [26]) (by kernel_rfl) (by simp) ?_
            refine (AllReadyT.cons (o := { dst := some 154, op := Op.call { callee := Callee.value (Operand.func 17), args := #[Operand.tmp 153], argTypes := #[26] }, type := 4, pos := "laws.go:393", after := #[{ on := 25, ground := Ground.data }, { on := 24, ground := Ground.chain }, { on := 24, ground := Ground.guard }], guard := some (24, true) }) (rs := []) rfl (fun K hK => ?_) AllReadyT.nil)
            go_simp
            (refine (TS.out _ hb2).mono ?_; rintro e wv3 ⟨rfl, k⟩; have hb3 := hb2.trans (k.mono hb2.size))
            refine hK.out _ _ ?_ (fun hHeld => ?_)
            · exact Cell.out _ hb3
            clear hK K
            try simp only [Act.put, List.setIfInBounds_toArray, List.set_cons_zero, List.set_cons_succ]
            refine wpAnyT_ready (rs := [28]) (by kernel_rfl) (by simp) ?_
            refine (AllReadyT.cons (o := { dst := some 156, op := Op.call { callee := Callee.value (Operand.func 27), args := #[Operand.tmp 155], argTypes := #[26] }, type := 4, pos := "laws.go:393", after := #[{ on := 27, ground := Ground.data }, { on := 26, ground := Ground.chain }, { on := 24, ground := Ground.guard }], guard := some (24, true) }) (rs := []) rfl (fun K hK => ?_) AllReadyT.nil)
            go_simp
            (refine (VG.out _ hb3).mono ?_; rintro e wv4 ⟨rfl, k⟩; have hb4 := hb3.trans (k.mono hb3.size))
            refine hK.out _ _ ?_ (fun hHeld => ?_)
            · exact Cell.out _ hb4
            clear hK K
            try simp only [Act.put, List.setIfInBounds_toArray, List.set_cons_zero, List.set_cons_succ]
            refine wpAnyT_take (i := 29) (oi := { dst := some 157, op := Op.move (Operand.tmp 156), type := 4, pos := "laws.go:393", after := #[{ on := 28, ground := Ground.data }, { on := 28, ground := Ground.chain }, { on := 24, ground := Ground.guard }], guard := some (24, true) }) (v := ?_) rfl (by kernel_rfl) (fun _ _ _ h => h) (Or.inl ⟨by rfl, ?_⟩) (by assumption) ?_
            rotate_left 1
            · intro w hSw; (try dsimp only at hSw); go_simp; try (with_reducible rfl)
            try simp only [Act.put, List.setIfInBounds_toArray, List.set_cons_zero, List.set_cons_succ]
            refine wpAnyT_take (i := 30) (oi := { dst := some 158, op := Op.move (Operand.tmp 18), type := 4, pos := "laws.go:393", after := #[{ on := 29, ground := Ground.guard }], guard := some (29, true) }) (v := ?_) rfl (by kernel_rfl) (fun _ _ _ h => h) (Or.inl ⟨by rfl, ?_⟩) (by assumption) ?_
            rotate_left 1
            · intro w hSw; (try dsimp only at hSw); go_simp; try (with_reducible rfl)
            try simp only [Act.put, List.setIfInBounds_toArray, List.set_cons_zero, List.set_cons_succ]
            refine wpAnyT_take (i := 31) (oi := { dst := some 159, op := Op.unOp UnOp.not 4 (Operand.tmp 158), type := 4, pos := "laws.go:393", after := #[{ on := 30, ground := Ground.data }, { on := 29, ground := Ground.guard }], guard := some (29, true) }) (v := ?_) rfl (by kernel_rfl) (fun _ _ _ h => h) (Or.inl ⟨by rfl, ?_⟩) (by assumption) ?_
            rotate_left 1
            · intro w hSw; (try dsimp only at hSw); go_simp; try (with_reducible rfl)
            try simp only [Act.put, List.setIfInBounds_toArray, List.set_cons_zero, List.set_cons_succ]
            refine wpAnyT_take (i := 32) (oi := { dst := some 160, op := Op.pick (Operand.tmp 157) (Operand.tmp 159) (Operand.const (Value.bool false)), type := 4, pos := "laws.go:393", after := #[{ on := 29, ground := Ground.data }, { on := 31, ground := Ground.data }, { on := 24, ground := Ground.guard }], guard := some (24, true) }) (v := ?_) rfl (by kernel_rfl) (fun _ _ _ h => h) (Or.inl ⟨by rfl, ?_⟩) (by assumption) ?_
            rotate_left 1
            · intro w hSw; (try dsimp only at hSw); go_simp; try (with_reducible rfl)
            try simp only [Act.put, List.setIfInBounds_toArray, List.set_cons_zero, List.set_cons_succ]
            refine wpAnyT_take (i := 33) (oi := { dst := some 161, op := Op.binOp BinOp.eql 4 (Operand.tmp 154) (Operand.tmp 160) 4, type := 4, pos := "laws.go:393", after := #[{ on := 26, ground := Ground.data }, { on := 32, ground := Ground.data }, { on := 24, ground := Ground.guard }], guard := some (24, true) }) (v := ?_) rfl (by kernel_rfl) (fun _ _ _ h => h) (Or.inl ⟨by rfl, ?_⟩) (by assumption) ?_
            rotate_left 1
            · intro w hSw; (try dsimp only at hSw); go_simp; try (with_reducible rfl)
            try simp only [Act.put, List.setIfInBounds_toArray, List.set_cons_zero, List.set_cons_succ]
            refine wpAnyT_take (i := 34) (oi := { dst := some 162, op := Op.pick (Operand.tmp 152) (Operand.tmp 161) (Operand.const (Value.bool false)), type := 4, pos := "laws.go:393", after := #[{ on := 24, ground := Ground.data }, { on := 33, ground := Ground.data }], guard := none }) (v := ?_) rfl (by kernel_rfl) (fun _ _ _ h => h) (Or.inl ⟨by rfl, ?_⟩) (by assumption) ?_
            rotate_left 1
            · intro w hSw; (try dsimp only at hSw); go_simp; try (with_reducible rfl)
            try simp only [Act.put, List.setIfInBounds_toArray, List.set_cons_zero, List.set_cons_succ]
            refine wpAnyT_ready (rs := [35]) (by kernel_rfl) (by simp) ?_
            refine (AllReadyT.last (o := { dst := some 2, op := Op.assign (Operand.tmp 162), type := 4, pos := "laws.go:393", after := #[{ on := 34, ground := Ground.data }, { on := 29, ground := Ground.chain }, { on := 0, ground := Ground.phase }, { on := 1, ground := Ground.phase }, { on := 2, ground := Ground.phase }, { on := 3, ground := Ground.phase }, { on := 4, ground := Ground.phase }, { on := 5, ground := Ground.phase }, { on := 6, ground := Ground.phase }, { on := 7, ground := Ground.phase }, { on := 8, ground := Ground.phase }, { on := 9, ground := Ground.phase }, { on := 10, ground := Ground.phase }, { on := 11, ground := Ground.phase }, { on := 12, ground := Ground.phase }, { on := 13, ground := Ground.phase }, { on := 14, ground := Ground.phase }, { on := 15, ground := Ground.phase }, { on := 16, ground := Ground.phase }, { on := 17, ground := Ground.phase }, { on := 18, ground := Ground.phase }, { on := 19, ground := Ground.phase }, { on := 20, ground := Ground.phase }, { on := 21, ground := Ground.phase }, { on := 22, ground := Ground.phase }, { on := 23, ground := Ground.phase }, { on := 24, ground := Ground.phase }, { on := 25, ground := Ground.phase }, { on := 26, ground := Ground.phase }, { on := 27, ground := Ground.phase }, { on := 28, ground := Ground.phase }, { on := 29, ground := Ground.phase }, { on := 30, ground := Ground.phase }, { on := 31, ground := Ground.phase }, { on := 32, ground := Ground.phase }, { on := 33, ground := Ground.phase }, { on := 34, ground := Ground.phase }], guard := none }) (rs := []) rfl (by rfl) (fun K hK => ?_) AllReadyT.nil)
            go_simp
            refine hK.out _ _ ?_
            clear hK K
            try simp only [Act.put, List.setIfInBounds_toArray, List.set_cons_zero, List.set_cons_succ]
            refine wpAnyT_done (by kernel_rfl) ?_ _
            go_wp2_with fail
            go_ret
            exact ⟨rfl, HB.out.trans (hb4.mono hle)⟩
        · rcases sup with _ | _
          · rw [show (true && !true) = false from rfl] at TC
            rw [show (true && !true) = false from rfl] at TM
            rw [show (true && !false) = true from rfl] at TS
            refine (IC.out _ HBW.out).mono ?_
            rintro e w11 ⟨rfl, k⟩
            replace HBW := Lib.hid (HBW.out.trans (k.mono HBW.out.size))
            obtain ⟨m0, m1, -⟩ := Cell.out _ HBW.out
            clear k
            go_wp2_with fail
            refine (SC.out _ HBW.out).mono ?_
            rintro e w12 ⟨rfl, k⟩
            replace HBW := Lib.hid (HBW.out.trans (k.mono HBW.out.size))
            obtain ⟨m0, m1, -⟩ := Cell.out _ HBW.out
            clear k
            go_wp2_with fail
            refine (TC.out _ HBW.out).mono ?_
            rintro e w13 ⟨rfl, k⟩
            replace HBW := Lib.hid (HBW.out.trans (k.mono HBW.out.size))
            obtain ⟨m0, m1, -⟩ := Cell.out _ HBW.out
            clear k
            obtain ⟨hv, a0, b0, rfl, rfl, ha, hb, hok⟩ := Pr.fault_pair HCC.out
            obtain ⟨u, hu, hul⟩ := Pr.uni_at hv ha hb
            obtain ⟨z, hz, hzl⟩ := Pr.ovl_at hv ha hb
            have Hu := Lib.hid (fun W' => (impl_Union (a0 : Int) (b0 : Int) (Pr.good_at hv ha) (Pr.good_at hv hb) W').mono fun _ w' h => (show _ ∧ w' = W' from ⟨h.1, h.2.symm⟩))
            have Ho := Lib.hid (fun W' => (impl_Overlap (a0 : Int) (b0 : Int) (Pr.good_at hv ha) (Pr.good_at hv hb) W').mono fun _ w' h => (show _ ∧ w' = W' from ⟨h.1, h.2.symm⟩))
            rw [hu] at Hu
            rw [hz] at Ho
            have Va := Lib.hid (Vl.out a0 ha)
            have Vb := Lib.hid (Vl.out b0 hb)
            have Vu := Lib.hid (Vl.out u hul)
            have Vz := Lib.hid (Vl.out z hzl)
            have ba := Gm.vld_at hv ha
            have bb := Gm.vld_at hv hb
            have bu := Gm.vld_at hv hul
            have bz := Gm.vld_at hv hzl
            have hgt : ¬ (g.v.getD a0 0 + g.v.getD b0 0 ≤ g.v.getD u 0 + g.v.getD z 0) := by unfold Pr.okC Pr.at' at hok; rw [hu, hz, Int.toNat_natCast, Int.toNat_natCast] at hok; exact of_decide_eq_false hok
            have hl := Gm.vld_len hv
            have l1 : a0 < 32 := by omega
            have l2 : b0 < 32 := by omega
            have l3 : u < 32 := by omega
            have l4 : z < 32 := by omega
            clear hv hu hz hok hl Vl ha hb hul hzl
            generalize g.v.getD a0 0 = X at *
            generalize g.v.getD b0 0 = Y at *
            generalize g.v.getD u 0 = Z at *
            generalize g.v.getD z 0 = U at *
            have hw1 : IntKind.i64.wrap (X + Y) = X + Y := IntWalk.i64_in _ (by omega)
            have hw2 : IntKind.i64.wrap (Z + U) = Z + U := IntWalk.i64_in _ (by omega)
            have hd : decide (X + Y ≤ Z + U) = false := decide_eq_false hgt
            clear hgt
            go_upto_region 8 with fail
            have hb0 := HBW.out.drew
            refine wp_region_T_drew (S := (fun w' => w'.cell? ⟨q, 0, none⟩ = some x ∧ w'.cell? ⟨q, 1, none⟩ = some v ∧ Below W.heap.size W w')) 21 (by kernel_rfl) ?_ (fun hHeld => ?_)
            · exact Cell.out _ hb0
            refine wpAnyT_take (i := 0) (oi := { dst := some 60, op := Op.move (Operand.tmp 6), type := 4, pos := "laws.go:383", after := #[], guard := none }) (v := ?_) rfl (by kernel_rfl) (fun _ _ _ h => h) (Or.inl ⟨by rfl, ?_⟩) (by assumption) ?_
            rotate_left 1
            · intro w hSw; (try dsimp only at hSw); go_simp; try (with_reducible rfl)
            try simp only [Act.put, List.setIfInBounds_toArray, List.set_cons_zero, List.set_cons_succ]
            refine wpAnyT_take (i := 1) (oi := { dst := some 61, op := Op.move (Operand.tmp 60), type := 4, pos := "laws.go:383", after := #[{ on := 0, ground := Ground.data }], guard := none }) (v := ?_) rfl (by kernel_rfl) (fun _ _ _ h => h) (Or.inl ⟨by rfl, ?_⟩) (by assumption) ?_
            rotate_left 1
            · intro w hSw; (try dsimp only at hSw); go_simp; try (with_reducible rfl)
            try simp only [Act.put, List.setIfInBounds_toArray, List.set_cons_zero, List.set_cons_succ]
            refine wpAnyT_take (i := 2) (oi := { dst := some 62, op := Op.load 26 (Operand.tmp 3), type := 26, pos := "laws.go:383", after := #[{ on := 1, ground := Ground.guard }], guard := some (1, true) }) (v := ?_) rfl (by kernel_rfl) (fun _ _ _ h => h) (Or.inl ⟨by rfl, ?_⟩) (by assumption) ?_
            rotate_left 1
            · intro w hSw; (try dsimp only at hSw); go_simp; try (with_reducible rfl)
            try simp only [Act.put, List.setIfInBounds_toArray, List.set_cons_zero, List.set_cons_succ]
            refine wpAnyT_take (i := 3) (oi := { dst := some 63, op := Op.move (Operand.tmp 4), type := 3, pos := "laws.go:383", after := #[{ on := 1, ground := Ground.guard }], guard := some (1, true) }) (v := ?_) rfl (by kernel_rfl) (fun _ _ _ h => h) (Or.inl ⟨by rfl, ?_⟩) (by assumption) ?_
            rotate_left 1
            · intro w hSw; (try dsimp only at hSw); go_simp; try (with_reducible rfl)
            try simp only [Act.put, List.setIfInBounds_toArray, List.set_cons_zero, List.set_cons_succ]
            refine wpAnyT_take (i := 5) (oi := { dst := some 65, op := Op.load 26 (Operand.tmp 3), type := 26, pos := "laws.go:383", after := #[{ on := 1, ground := Ground.guard }], guard := some (1, true) }) (v := ?_) rfl (by kernel_rfl) (fun _ _ _ h => h) (Or.inl ⟨by rfl, ?_⟩) (by assumption) ?_
            rotate_left 1
            · intro w hSw; (try dsimp only at hSw); go_simp; try (with_reducible rfl)
            try simp only [Act.put, List.setIfInBounds_toArray, List.set_cons_zero, List.set_cons_succ]
            refine wpAnyT_take (i := 6) (oi := { dst := some 66, op := Op.move (Operand.tmp 5), type := 3, pos := "laws.go:383", after := #[{ on := 1, ground := Ground.guard }], guard := some (1, true) }) (v := ?_) rfl (by kernel_rfl) (fun _ _ _ h => h) (Or.inl ⟨by rfl, ?_⟩) (by assumption) ?_
            rotate_left 1
            · intro w hSw; (try dsimp only at hSw); go_simp; try (with_reducible rfl)
            try simp only [Act.put, List.setIfInBounds_toArray, List.set_cons_zero, List.set_cons_succ]
            refine wpAnyT_take (i := 9) (oi := { dst := some 69, op := Op.load 26 (Operand.tmp 3), type := 26, pos := "laws.go:383", after := #[{ on := 1, ground := Ground.guard }], guard := some (1, true) }) (v := ?_) rfl (by kernel_rfl) (fun _ _ _ h => h) (Or.inl ⟨by rfl, ?_⟩) (by assumption) ?_
            rotate_left 1
            · intro w hSw; (try dsimp only at hSw); go_simp; try (with_reducible rfl)
            try simp only [Act.put, List.setIfInBounds_toArray, List.set_cons_zero, List.set_cons_succ]
            refine wpAnyT_take (i := 10) (oi := { dst := some 70, op := Op.move (Operand.tmp 4), type := 3, pos := "laws.go:383", after := #[{ on := 1, ground := Ground.guard }], guard := some (1, true) }) (v := ?_) rfl (by kernel_rfl) (fun _ _ _ h => h) (Or.inl ⟨by rfl, ?_⟩) (by assumption) ?_
            rotate_left 1
            · intro w hSw; (try dsimp only at hSw); go_simp; try (with_reducible rfl)
            try simp only [Act.put, List.setIfInBounds_toArray, List.set_cons_zero, List.set_cons_succ]
            refine wpAnyT_take (i := 11) (oi := { dst := some 71, op := Op.move (Operand.tmp 5), type := 3, pos := "laws.go:383", after := #[{ on := 1, ground := Ground.guard }], guard := some (1, true) }) (v := ?_) rfl (by kernel_rfl) (fun _ _ _ h => h) (Or.inl ⟨by rfl, ?_⟩) (by assumption) ?_
            rotate_left 1
            · intro w hSw; (try dsimp only at hSw); go_simp; try (with_reducible rfl)
            try simp only [Act.put, List.setIfInBounds_toArray, List.set_cons_zero, List.set_cons_succ]
            refine wpAnyT_take (i := 14) (oi := { dst := some 74, op := Op.load 26 (Operand.tmp 3), type := 26, pos := "laws.go:383", after := #[{ on := 1, ground := Ground.guard }], guard := some (1, true) }) (v := ?_) rfl (by kernel_rfl) (fun _ _ _ h => h) (Or.inl ⟨by rfl, ?_⟩) (by assumption) ?_
            rotate_left 1
            · intro w hSw; (try dsimp only at hSw); go_simp; try (with_reducible rfl)
            try simp only [Act.put, List.setIfInBounds_toArray, List.set_cons_zero, List.set_cons_succ]
            refine wpAnyT_take (i := 15) (oi := { dst := some 75, op := Op.move (Operand.tmp 4), type := 3, pos := "laws.go:383", after := #[{ on := 1, ground := Ground.guard }], guard := some (1, true) }) (v := ?_) rfl (by kernel_rfl) (fun _ _ _ h => h) (Or.inl ⟨by rfl, ?_⟩) (by assumption) ?_
            rotate_left 1
            · intro w hSw; (try dsimp only at hSw); go_simp; try (with_reducible rfl)
            try simp only [Act.put, List.setIfInBounds_toArray, List.set_cons_zero, List.set_cons_succ]
            refine wpAnyT_take (i := 16) (oi := { dst := some 76, op := Op.move (Operand.tmp 5), type := 3, pos := "laws.go:383", after := #[{ on := 1, ground := Ground.guard }], guard := some (1, true) }) (v := ?_) rfl (by kernel_rfl) (fun _ _ _ h => h) (Or.inl ⟨by rfl, ?_⟩) (by assumption) ?_
            rotate_left 1
            · intro w hSw; (try dsimp only at hSw); go_simp; try (with_reducible rfl)
            try simp only [Act.put, List.setIfInBounds_toArray, List.set_cons_zero, List.set_cons_succ]
            refine wpAnyT_ready (rs := [4]) (by kernel_rfl) (by simp) ?_
            refine (AllReadyT.cons (o := { dst := some 64, op := Op.call { callee := Callee.value (Operand.func 18), args := #[Operand.tmp 62, Operand.tmp 63], argTypes := #[26, 3] }, type := 3, pos := "laws.go:383", after := #[{ on := 2, ground := Ground.data }, { on := 3, ground := Ground.data }, { on := 1, ground := Ground.chain }, { on := 1, ground := Ground.guard }], guard := some (1, true) }) (rs := []) rfl (fun K hK => ?_) AllReadyT.nil)
            go_simp
            (refine (Va.out _ hb0).mono ?_; rintro e wv1 ⟨rfl, k⟩; have hb1 := hb0.trans (k.mono hb0.size))
            refine hK.out _ _ ?_ (fun hHeld => ?_)
            · exact Cell.out _ hb1
            clear hK K
            try simp only [Act.put, List.setIfInBounds_toArray, List.set_cons_zero, List.set_cons_succ]
            refine wpAnyT_ready (rs := [7]) (by kernel_rfl) (by simp) ?_
            refine (AllReadyT.cons (o := { dst := some 67, op := Op.call { callee := Callee.value (Operand.func 18), args := #[Operand.tmp 65, Operand.tmp 66], argTypes := #[26, 3] }, type := 3, pos := "laws.go:383", after := #[{ on := 5, ground := Ground.data }, { on := 6, ground := Ground.data }, { on := 4, ground := Ground.chain }, { on := 1, ground := Ground.guard }], guard := some (1, true) }) (rs := []) rfl (fun K hK => ?_) AllReadyT.nil)
            go_simp
            (refine (Vb.out _ hb1).mono ?_; rintro e wv2 ⟨rfl, k⟩; have hb2 := hb1.trans (k.mono hb1.size))
            refine hK.out _ _ ?_ (fun hHeld => ?_)
            · exact Cell.out _ hb2
            clear hK K
            try simp only [Act.put, List.setIfInBounds_toArray, List.set_cons_zero, List.set_cons_succ]
            refine wpAnyT_take (i := 8) (oi := { dst := some 68, op := Op.binOp BinOp.add 3 (Operand.tmp 64) (Operand.tmp 67) 3, type := 3, pos := "laws.go:383", after := #[{ on := 4, ground := Ground.data }, { on := 7, ground := Ground.data }, { on := 1, ground := Ground.guard }], guard := some (1, true) }) (v := ?_) rfl (by kernel_rfl) (fun _ _ _ h => h) (Or.inl ⟨by rfl, ?_⟩) (by assumption) ?_
            rotate_left 1
            · intro w hSw; (try dsimp only at hSw); go_simp; try (with_reducible rfl)
            try simp only [Act.put, List.setIfInBounds_toArray, List.set_cons_zero, List.set_cons_succ]
            refine wpAnyT_ready (rs := [12]) (by kernel_rfl) (by simp) ?_
            refine (AllReadyT.cons (o := { dst := some 72, op := Op.call { callee := Callee.value (Operand.func 19), args := #[Operand.tmp 70, Operand.tmp 71], argTypes := #[3, 3] }, type := 3, pos := "laws.go:383", after := #[{ on := 10, ground := Ground.data }, { on := 11, ground := Ground.data }, { on := 7, ground := Ground.chain }, { on := 1, ground := Ground.guard }], guard := some (1, true) }) (rs := []) rfl (fun K hK => ?_) AllReadyT.nil)
            go_simp
            (refine (Hu.out _).mono ?_; rintro e wu ⟨rfl, rfl⟩)
            refine hK.out _ _ ?_ (fun hHeld => ?_)
            · exact Cell.out _ hb2
            clear hK K
            try simp only [Act.put, List.setIfInBounds_toArray, List.set_cons_zero, List.set_cons_succ]
            refine wpAnyT_ready (rs := [13]) (by kernel_rfl) (by simp) ?_
            refine (AllReadyT.cons (o := { dst := some 73, op := Op.call { callee := Callee.value (Operand.func 18), args := #[Operand.tmp 69, Operand.tmp 72], argTypes := #[26, 3] }, type := 3, pos := "laws.go:383", after := #[{ on := 9, ground := Ground.data }, { on := 12, ground := Ground.data }, { on := 12, ground := Ground.chain }, { on := 1, ground := Ground.guard }], guard := some (1, true) }) (rs := []) rfl (fun K hK => ?_) AllReadyT.nil)
            go_simp
            (refine (Vu.out _ hb2).mono ?_; rintro e wv3 ⟨rfl, k⟩; have hb3 := hb2.trans (k.mono hb2.size))
            refine hK.out _ _ ?_ (fun hHeld => ?_)
            · exact Cell.out _ hb3
            clear hK K
            try simp only [Act.put, List.setIfInBounds_toArray, List.set_cons_zero, List.set_cons_succ]
            refine wpAnyT_ready (rs := [17]) (by kernel_rfl) (by simp) ?_
            refine (AllReadyT.cons (o := { dst := some 77, op := Op.call { callee := Callee.value (Operand.func 20), args := #[Operand.tmp 75, Operand.tmp 76], argTypes := #[3, 3] }, type := 3, pos := "laws.go:383", after := #[{ on := 15, ground := Ground.data }, { on := 16, ground := Ground.data }, { on := 13, ground := Ground.chain }, { on := 1, ground := Ground.guard }], guard := some (1, true) }) (rs := []) rfl (fun K hK => ?_) AllReadyT.nil)
            go_simp
            (refine (Ho.out _).mono ?_; rintro e wo ⟨rfl, rfl⟩)
            refine hK.out _ _ ?_ (fun hHeld => ?_)
            · exact Cell.out _ hb3
            clear hK K
            try simp only [Act.put, List.setIfInBounds_toArray, List.set_cons_zero, List.set_cons_succ]
            refine wpAnyT_ready (rs := [18]) (by kernel_rfl) (by simp) ?_
            refine (AllReadyT.cons (o := { dst := some 78, op := Op.call { callee := Callee.value (Operand.func 18), args := #[Operand.tmp 74, Operand.tmp 77], argTypes := #[26, 3] }, type := 3, pos := "laws.go:383", after := #[{ on := 14, ground := Ground.data }, { on := 17, ground := Ground.data }, { on := 17, ground := Ground.chain }, { on := 1, ground := Ground.guard }], guard := some (1, true) }) (rs := []) rfl (fun K hK => ?_) AllReadyT.nil)
            go_simp
            (refine (Vz.out _ hb3).mono ?_; rintro e wv4 ⟨rfl, k⟩; have hb4 := hb3.trans (k.mono hb3.size))
            refine hK.out _ _ ?_ (fun hHeld => ?_)
            · exact Cell.out _ hb4
            clear hK K
            try simp only [Act.put, List.setIfInBounds_toArray, List.set_cons_zero, List.set_cons_succ]
            refine wpAnyT_take (i := 19) (oi := { dst := some 79, op := Op.binOp BinOp.add 3 (Operand.tmp 73) (Operand.tmp 78) 3, type := 3, pos := "laws.go:383", after := #[{ on := 13, ground := Ground.data }, { on := 18, ground := Ground.data }, { on := 1, ground := Ground.guard }], guard := some (1, true) }) (v := ?_) rfl (by kernel_rfl) (fun _ _ _ h => h) (Or.inl ⟨by rfl, ?_⟩) (by assumption) ?_
            rotate_left 1
            · intro w hSw; (try dsimp only at hSw); go_simp; try (with_reducible rfl)
            try simp only [Act.put, List.setIfInBounds_toArray, List.set_cons_zero, List.set_cons_succ]
            refine wpAnyT_take (i := 20) (oi := { dst := some 80, op := Op.binOp BinOp.leq 3 (Operand.tmp 68) (Operand.tmp 79) 3, type := 4, pos := "laws.go:383", after := #[{ on := 8, ground := Ground.data }, { on := 19, ground := Ground.data }, { on := 1, ground := Ground.guard }], guard := some (1, true) }) (v := ?_) rfl (by kernel_rfl) (fun _ _ _ h => h) (Or.inl ⟨by rfl, ?_⟩) (by assumption) ?_
            rotate_left 1
            · intro w hSw; (try dsimp only at hSw); go_simp; try (with_reducible rfl)
            try simp only [Act.put, List.setIfInBounds_toArray, List.set_cons_zero, List.set_cons_succ]
            refine wpAnyT_ready (rs := [21]) (by kernel_rfl) (by simp) ?_
            refine (AllReadyT.last (o := { dst := some 81, op := Op.pick (Operand.tmp 61) (Operand.tmp 80) (Operand.const (Value.bool false)), type := 4, pos := "laws.go:383", after := #[{ on := 1, ground := Ground.data }, { on := 20, ground := Ground.data }], guard := none }) (rs := []) rfl (by rfl) (fun K hK => ?_) AllReadyT.nil)
            go_simp
            refine hK.out _ _ ?_
            clear hK K
            try simp only [Act.put, List.setIfInBounds_toArray, List.set_cons_zero, List.set_cons_succ]
            refine wpAnyT_done (by kernel_rfl) ?_ _
            replace HBW := Lib.hid hb4
            obtain ⟨m0, m1, -⟩ := Cell.out _ HBW.out
            go_wp2_with fail
            refine (IM.out _ HBW.out).mono ?_
            rintro e w14 ⟨rfl, k⟩
            replace HBW := Lib.hid (HBW.out.trans (k.mono HBW.out.size))
            obtain ⟨m0, m1, -⟩ := Cell.out _ HBW.out
            clear k
            go_wp2_with fail
            refine (SM.out _ HBW.out).mono ?_
            rintro e w15 ⟨rfl, k⟩
            replace HBW := Lib.hid (HBW.out.trans (k.mono HBW.out.size))
            obtain ⟨m0, m1, -⟩ := Cell.out _ HBW.out
            clear k
            obtain ⟨hv, e0, f0, rfl, rfl, ha, hb, hok⟩ := Pr.fault_pair HMM.out
            have hsub : Co.sub (e0 : Int) (f0 : Int) 5 = true := by
              unfold Pr.okM at hok
              rcases hs : Co.sub (e0 : Int) (f0 : Int) 5 with _ | _
              · rw [hs] at hok; simp at hok
              · rfl
            have HSb := Lib.hid (impl_IsSubset (e0 : Int) (f0 : Int) (Pr.good_at hv ha) (Pr.good_at hv hb) true hsub)
            clear hv ha hb hok hsub
            go_wp2_with fail
            refine (HSb.out _).mono ?_
            rintro e ws ⟨rfl, rfl⟩
            go_wp2_with fail
            refine (IS.out _ HBW.out).mono ?_
            rintro e w16 ⟨rfl, k⟩
            replace HBW := Lib.hid (HBW.out.trans (k.mono HBW.out.size))
            obtain ⟨m0, m1, -⟩ := Cell.out _ HBW.out
            clear k
            go_wp2_with fail
            refine (SS.out _ HBW.out).mono ?_
            rintro e w17 ⟨rfl, k⟩
            replace HBW := Lib.hid (HBW.out.trans (k.mono HBW.out.size))
            obtain ⟨m0, m1, -⟩ := Cell.out _ HBW.out
            clear k
            go_upto_region 16 with fail
            have hb0 := HBW.out.drew
            refine wp_region_T_drew (S := (fun w' => w'.cell? ⟨q, 0, none⟩ = some x ∧ w'.cell? ⟨q, 1, none⟩ = some v ∧ Below W.heap.size W w')) 35 (by kernel_rfl) ?_ (fun hHeld => ?_)
            · exact Cell.out _ hb0
            refine wpAnyT_take (i := 0) (oi := { dst := some 128, op := Op.move (Operand.tmp 16), type := 3, pos := "laws.go:393", after := #[], guard := none }) (v := ?_) rfl (by kernel_rfl) (fun _ _ _ h => h) (Or.inl ⟨by rfl, ?_⟩) (by assumption) ?_
            rotate_left 1
            · intro w hSw; (try dsimp only at hSw); go_simp; try (with_reducible rfl)
            try simp only [Act.put, List.setIfInBounds_toArray, List.set_cons_zero, List.set_cons_succ]
            refine wpAnyT_take (i := 1) (oi := { dst := some 129, op := Op.move (Operand.tmp 19), type := 3, pos := "laws.go:393", after := #[], guard := none }) (v := ?_) rfl (by kernel_rfl) (fun _ _ _ h => h) (Or.inl ⟨by rfl, ?_⟩) (by assumption) ?_
            rotate_left 1
            · intro w hSw; (try dsimp only at hSw); go_simp; try (with_reducible rfl)
            try simp only [Act.put, List.setIfInBounds_toArray, List.set_cons_zero, List.set_cons_succ]
            refine wpAnyT_take (i := 2) (oi := { dst := some 130, op := Op.binOp BinOp.eql 3 (Operand.tmp 128) (Operand.tmp 129) 3, type := 4, pos := "laws.go:393", after := #[{ on := 0, ground := Ground.data }, { on := 1, ground := Ground.data }], guard := none }) (v := ?_) rfl (by kernel_rfl) (fun _ _ _ h => h) (Or.inl ⟨by rfl, ?_⟩) (by assumption) ?_
            rotate_left 1
            · intro w hSw; (try dsimp only at hSw); go_simp; try (with_reducible rfl)
            try simp only [Act.put, List.setIfInBounds_toArray, List.set_cons_zero, List.set_cons_succ]
            refine wpAnyT_take (i := 3) (oi := { dst := some 131, op := Op.move (Operand.tmp 130), type := 4, pos := "laws.go:393", after := #[{ on := 2, ground := Ground.data }], guard := none }) (v := ?_) rfl (by kernel_rfl) (fun _ _ _ h => h) (Or.inl ⟨by rfl, ?_⟩) (by assumption) ?_
            rotate_left 1
            · intro w hSw; (try dsimp only at hSw); go_simp; try (with_reducible rfl)
            try simp only [Act.put, List.setIfInBounds_toArray, List.set_cons_zero, List.set_cons_succ]
            refine wpAnyT_take (i := 4) (oi := { dst := some 132, op := Op.move (Operand.tmp 17), type := 3, pos := "laws.go:393", after := #[{ on := 3, ground := Ground.guard }], guard := some (3, true) }) (v := ?_) rfl (by kernel_rfl) (fun _ _ _ h => h) (Or.inl ⟨by rfl, ?_⟩) (by assumption) ?_
            rotate_left 1
            · intro w hSw; (try dsimp only at hSw); go_simp; try (with_reducible rfl)
            try simp only [Act.put, List.setIfInBounds_toArray, List.set_cons_zero, List.set_cons_succ]
            refine wpAnyT_take (i := 5) (oi := { dst := some 133, op := Op.move (Operand.tmp 20), type := 3, pos := "laws.go:393", after := #[{ on := 3, ground := Ground.guard }], guard := some (3, true) }) (v := ?_) rfl (by kernel_rfl) (fun _ _ _ h => h) (Or.inl ⟨by rfl, ?_⟩) (by assumption) ?_
            rotate_left 1
            · intro w hSw; (try dsimp only at hSw); go_simp; try (with_reducible rfl)
            try simp only [Act.put, List.setIfInBounds_toArray, List.set_cons_zero, List.set_cons_succ]
            refine wpAnyT_take (i := 6) (oi := { dst := some 134, op := Op.binOp BinOp.eql 3 (Operand.tmp 132) (Operand.tmp 133) 3, type := 4, pos := "laws.go:393", after := #[{ on := 4, ground := Ground.data }, { on := 5, ground := Ground.data }, { on := 3, ground := Ground.guard }], guard := some (3, true) }) (v := ?_) rfl (by kernel_rfl) (fun _ _ _ h => h) (Or.inl ⟨by rfl, ?_⟩) (by assumption) ?_
            rotate_left 1
            · intro w hSw; (try dsimp only at hSw); go_simp; try (with_reducible rfl)
            try simp only [Act.put, List.setIfInBounds_toArray, List.set_cons_zero, List.set_cons_succ]
            refine wpAnyT_take (i := 7) (oi := { dst := some 135, op := Op.pick (Operand.tmp 131) (Operand.tmp 134) (Operand.const (Value.bool false)), type := 4, pos := "laws.go:393", after := #[{ on := 3, ground := Ground.data }, { on := 6, ground := Ground.data }], guard := none }) (v := ?_) rfl (by kernel_rfl) (fun _ _ _ h => h) (Or.inl ⟨by rfl, ?_⟩) (by assumption) ?_
            rotate_left 1
            · intro w hSw; (try dsimp only at hSw); go_simp; try (with_reducible rfl)
            try simp only [Act.put, List.setIfInBounds_toArray, List.set_cons_zero, List.set_cons_succ]
            refine wpAnyT_take (i := 8) (oi := { dst := some 136, op := Op.move (Operand.tmp 135), type := 4, pos := "laws.go:393", after := #[{ on := 7, ground := Ground.data }, { on := 3, ground := Ground.chain }], guard := none }) (v := ?_) rfl (by kernel_rfl) (fun _ _ _ h => h) (Or.inl ⟨by rfl, ?_⟩) (by assumption) ?_
            rotate_left 1
            · intro w hSw; (try dsimp only at hSw); go_simp; try (with_reducible rfl)
            try simp only [Act.put, List.setIfInBounds_toArray, List.set_cons_zero, List.set_cons_succ]
            refine wpAnyT_take (i := 9) (oi := { dst := some 137, op := Op.move (Operand.tmp 18), type := 4, pos := "laws.go:393", after := #[{ on := 8, ground := Ground.guard }], guard := some (8, true) }) (v := ?_) rfl (by kernel_rfl) (fun _ _ _ h => h) (Or.inl ⟨by rfl, ?_⟩) (by assumption) ?_
            rotate_left 1
            · intro w hSw; (try dsimp only at hSw); go_simp; try (with_reducible rfl)
            try simp only [Act.put, List.setIfInBounds_toArray, List.set_cons_zero, List.set_cons_succ]
            refine wpAnyT_take (i := 10) (oi := { dst := some 138, op := Op.move (Operand.tmp 21), type := 4, pos := "laws.go:393", after := #[{ on := 8, ground := Ground.guard }], guard := some (8, true) }) (v := ?_) rfl (by kernel_rfl) (fun _ _ _ h => h) (Or.inl ⟨by rfl, ?_⟩) (by assumption) ?_
            rotate_left 1
            · intro w hSw; (try dsimp only at hSw); go_simp; try (with_reducible rfl)
            try simp only [Act.put, List.setIfInBounds_toArray, List.set_cons_zero, List.set_cons_succ]
            refine wpAnyT_take (i := 11) (oi := { dst := some 139, op := Op.binOp BinOp.eql 4 (Operand.tmp 137) (Operand.tmp 138) 4, type := 4, pos := "laws.go:393", after := #[{ on := 9, ground := Ground.data }, { on := 10, ground := Ground.data }, { on := 8, ground := Ground.guard }], guard := some (8, true) }) (v := ?_) rfl (by kernel_rfl) (fun _ _ _ h => h) (Or.inl ⟨by rfl, ?_⟩) (by assumption) ?_
            rotate_left 1
            · intro w hSw; (try dsimp only at hSw); go_simp; try (with_reducible rfl)
            try simp only [Act.put, List.setIfInBounds_toArray, List.set_cons_zero, List.set_cons_succ]
            refine wpAnyT_take (i := 12) (oi := { dst := some 140, op := Op.pick (Operand.tmp 136) (Operand.tmp 139) (Operand.const (Value.bool false)), type := 4, pos := "laws.go:393", after := #[{ on := 8, ground := Ground.data }, { on := 11, ground := Ground.data }], guard := none }) (v := ?_) rfl (by kernel_rfl) (fun _ _ _ h => h) (Or.inl ⟨by rfl, ?_⟩) (by assumption) ?_
            rotate_left 1
            · intro w hSw; (try dsimp only at hSw); go_simp; try (with_reducible rfl)
            try simp only [Act.put, List.setIfInBounds_toArray, List.set_cons_zero, List.set_cons_succ]
            refine wpAnyT_take (i := 13) (oi := { dst := some 141, op := Op.move (Operand.tmp 140), type := 4, pos := "laws.go:393", after := #[{ on := 12, ground := Ground.data }, { on := 8, ground := Ground.chain }], guard := none }) (v := ?_) rfl (by kernel_rfl) (fun _ _ _ h => h) (Or.inl ⟨by rfl, ?_⟩) (by assumption) ?_
            rotate_left 1
            · intro w hSw; (try dsimp only at hSw); go_simp; try (with_reducible rfl)
            try simp only [Act.put, List.setIfInBounds_toArray, List.set_cons_zero, List.set_cons_succ]
            refine wpAnyT_take (i := 14) (oi := { dst := some 142, op := Op.load 26 (Operand.tmp 3), type := 26, pos := "laws.go:393", after := #[{ on := 13, ground := Ground.guard }], guard := some (13, true) }) (v := ?_) rfl (by kernel_rfl) (fun _ _ _ h => h) (Or.inl ⟨by rfl, ?_⟩) (by assumption) ?_
            rotate_left 1
            · intro w hSw; (try dsimp only at hSw); go_simp; try (with_reducible rfl)
            try simp only [Act.put, List.setIfInBounds_toArray, List.set_cons_zero, List.set_cons_succ]
            refine wpAnyT_take (i := 16) (oi := { dst := some 144, op := Op.load 26 (Operand.tmp 3), type := 26, pos := "laws.go:393", after := #[{ on := 13, ground := Ground.guard }], guard := some (13, true) }) (v := ?_) rfl (by kernel_rfl) (fun _ _ _ h => h) (Or.inl ⟨by rfl, ?_⟩) (by assumption) ?_
            rotate_left 1
            · intro w hSw; (try dsimp only at hSw); go_simp; try (with_reducible rfl)
            try simp only [Act.put, List.setIfInBounds_toArray, List.set_cons_zero, List.set_cons_succ]
            refine wpAnyT_ready (rs := [15]) (by kernel_rfl) (by simp) ?_
            refine (AllReadyT.cons (o := { dst := some 143, op := Op.call { callee := Callee.value (Operand.func 26), args := #[Operand.tmp 142], argTypes := #[26] }, type := 4, pos := "laws.go:393", after := #[{ on := 14, ground := Ground.data }, { on := 13, ground := Ground.chain }, { on := 13, ground := Ground.guard }], guard := some (13, true) }) (rs := []) rfl (fun K hK => ?_) AllReadyT.nil)
            go_simp
            (refine (TM.out _ hb0).mono ?_; rintro e wv1 ⟨rfl, k⟩; have hb1 := hb0.trans (k.mono hb0.size))
            refine hK.out _ _ ?_ (fun hHeld => ?_)
            · exact Cell.out _ hb1
            clear hK K
            try simp only [Act.put, List.setIfInBounds_toArray, List.set_cons_zero, List.set_cons_succ]
            refine wpAnyT_ready (rs := [17]) (by kernel_rfl) (by simp) ?_
            refine (AllReadyT.cons (o := { dst := some 145, op := Op.call { callee := Callee.value (Operand.func 27), args := #[Operand.tmp 144], argTypes := #[26] }, type := 4, pos := "laws.go:393", after := #[{ on := 16, ground := Ground.data }, { on := 15, ground := Ground.chain }, { on := 13, ground := Ground.guard }], guard := some (13, true) }) (rs := []) rfl (fun K hK => ?_) AllReadyT.nil)
            go_simp
            (refine (VG.out _ hb1).mono ?_; rintro e wv2 ⟨rfl, k⟩; have hb2 := hb1.trans (k.mono hb1.size))
            refine hK.out _ _ ?_ (fun hHeld => ?_)
            · exact Cell.out _ hb2
            clear hK K
            try simp only [Act.put, List.setIfInBounds_toArray, List.set_cons_zero, List.set_cons_succ]
            refine wpAnyT_take (i := 18) (oi := { dst := some 146, op := Op.move (Operand.tmp 145), type := 4, pos := "laws.go:393", after := #[{ on := 17, ground := Ground.data }, { on := 17, ground := Ground.chain }, { on := 13, ground := Ground.guard }], guard := some (13, true) }) (v := ?_) rfl (by kernel_rfl) (fun _ _ _ h => h) (Or.inl ⟨by rfl, ?_⟩) (by assumption) ?_
            rotate_left 1
            · intro w hSw; (try dsimp only at hSw); go_simp; try (with_reducible rfl)
            try simp only [Act.put, List.setIfInBounds_toArray, List.set_cons_zero, List.set_cons_succ]
            refine wpAnyT_take (i := 19) (oi := { dst := some 147, op := Op.move (Operand.tmp 12), type := 4, pos := "laws.go:393", after := #[{ on := 18, ground := Ground.guard }], guard := some (18, true) }) (v := ?_) rfl (by kernel_rfl) (fun _ _ _ h => h) (Or.inl ⟨by rfl, ?_⟩) (by assumption) ?_
            rotate_left 1
            · intro w hSw; (try dsimp only at hSw); go_simp; try (with_reducible rfl)
            try simp only [Act.put, List.setIfInBounds_toArray, List.set_cons_zero, List.set_cons_succ]
            refine wpAnyT_take (i := 20) (oi := { dst := some 148, op := Op.unOp UnOp.not 4 (Operand.tmp 147), type := 4, pos := "laws.go:393", after := #[{ on := 19, ground := Ground.data }, { on := 18, ground := Ground.guard }], guard := some (18, true) }) (v := ?_) rfl (by kernel_rfl) (fun _ _ _ h => h) (Or.inl ⟨by rfl, ?_⟩) (by assumption) ?_
            rotate_left 1
            · intro w hSw; (try dsimp only at hSw); go_simp; try (with_reducible rfl)
            try simp only [Act.put, List.setIfInBounds_toArray, List.set_cons_zero, List.set_cons_succ]
            refine wpAnyT_take (i := 21) (oi := { dst := some 149, op := Op.pick (Operand.tmp 146) (Operand.tmp 148) (Operand.const (Value.bool false)), type := 4, pos := "laws.go:393", after := #[{ on := 18, ground := Ground.data }, { on := 20, ground := Ground.data }, { on := 13, ground := Ground.guard }], guard := some (13, true) }) (v := ?_) rfl (by kernel_rfl) (fun _ _ _ h => h) (Or.inl ⟨by rfl, ?_⟩) (by assumption) ?_
            rotate_left 1
            · intro w hSw; (try dsimp only at hSw); go_simp; try (with_reducible rfl)
            try simp only [Act.put, List.setIfInBounds_toArray, List.set_cons_zero, List.set_cons_succ]
            refine wpAnyT_take (i := 22) (oi := { dst := some 150, op := Op.binOp BinOp.eql 4 (Operand.tmp 143) (Operand.tmp 149) 4, type := 4, pos := "laws.go:393", after := #[{ on := 15, ground := Ground.data }, { on := 21, ground := Ground.data }, { on := 13, ground := Ground.guard }], guard := some (13, true) }) (v := ?_) rfl (by kernel_rfl) (fun _ _ _ h => h) (Or.inl ⟨by rfl, ?_⟩) (by assumption) ?_
            rotate_left 1
            · intro w hSw; (try dsimp only at hSw); go_simp; try (with_reducible rfl)
            try simp only [Act.put, List.setIfInBounds_toArray, List.set_cons_zero, List.set_cons_succ]
            refine wpAnyT_take (i := 23) (oi := { dst := some 151, op := Op.pick (Operand.tmp 141) (Operand.tmp 150) (Operand.const (Value.bool false)), type := 4, pos := "laws.go:393", after := #[{ on := 13, ground := Ground.data }, { on := 22, ground := Ground.data }], guard := none }) (v := ?_) rfl (by kernel_rfl) (fun _ _ _ h => h) (Or.inl ⟨by rfl, ?_⟩) (by assumption) ?_
            rotate_left 1
            · intro w hSw; (try dsimp only at hSw); go_simp; try (with_reducible rfl)
            try simp only [Act.put, List.setIfInBounds_toArray, List.set_cons_zero, List.set_cons_succ]
            refine wpAnyT_take (i := 24) (oi := { dst := some 152, op := Op.move (Operand.tmp 151), type := 4, pos := "laws.go:393", after := #[{ on := 23, ground := Ground.data }, { on := 18, ground := Ground.chain }], guard := none }) (v := ?_) rfl (by kernel_rfl) (fun _ _ _ h => h) (Or.inl ⟨by rfl, ?_⟩) (by assumption) ?_
            rotate_left 1
            · intro w hSw; (try dsimp only at hSw); go_simp; try (with_reducible rfl)
            try simp only [Act.put, List.setIfInBounds_toArray, List.set_cons_zero, List.set_cons_succ]
            refine wpAnyT_take (i := 25) (oi := { dst := some 153, op := Op.load 26 (Operand.tmp 3), type := 26, pos := "laws.go:393", after := #[{ on := 24, ground := Ground.guard }], guard := some (24, true) }) (v := ?_) rfl (by kernel_rfl) (fun _ _ _ h => h) (Or.inl ⟨by rfl, ?_⟩) (by assumption) ?_
            rotate_left 1
            · intro w hSw; (try dsimp only at hSw); go_simp; try (with_reducible rfl)
            try simp only [Act.put, List.setIfInBounds_toArray, List.set_cons_zero, List.set_cons_succ]
            refine wpAnyT_take (i := 27) (oi := { dst := some 155, op := Op.load 26 (Operand.tmp 3), type := 26, pos := "laws.go:393", after := #[{ on := 24, ground := Ground.guard }], guard := some (24, true) }) (v := ?_) rfl (by kernel_rfl) (fun _ _ _ h => h) (Or.inl ⟨by rfl, ?_⟩) (by assumption) ?_
            rotate_left 1
            · intro w hSw; (try dsimp only at hSw); go_simp; try (with_reducible rfl)
            try simp only [Act.put, List.setIfInBounds_toArray, List.set_cons_zero, List.set_cons_succ]
            refine wpAnyT_ready (rs := [26]) (by kernel_rfl) (by simp) ?_
            refine (AllReadyT.cons (o := { dst := some 154, op := Op.call { callee := Callee.value (Operand.func 17), args := #[Operand.tmp 153], argTypes := #[26] }, type := 4, pos := "laws.go:393", after := #[{ on := 25, ground := Ground.data }, { on := 24, ground := Ground.chain }, { on := 24, ground := Ground.guard }], guard := some (24, true) }) (rs := []) rfl (fun K hK => ?_) AllReadyT.nil)
            go_simp
            (refine (TS.out _ hb2).mono ?_; rintro e wv3 ⟨rfl, k⟩; have hb3 := hb2.trans (k.mono hb2.size))
            refine hK.out _ _ ?_ (fun hHeld => ?_)
            · exact Cell.out _ hb3
            clear hK K
            try simp only [Act.put, List.setIfInBounds_toArray, List.set_cons_zero, List.set_cons_succ]
            refine wpAnyT_ready (rs := [28]) (by kernel_rfl) (by simp) ?_
            refine (AllReadyT.cons (o := { dst := some 156, op := Op.call { callee := Callee.value (Operand.func 27), args := #[Operand.tmp 155], argTypes := #[26] }, type := 4, pos := "laws.go:393", after := #[{ on := 27, ground := Ground.data }, { on := 26, ground := Ground.chain }, { on := 24, ground := Ground.guard }], guard := some (24, true) }) (rs := []) rfl (fun K hK => ?_) AllReadyT.nil)
            go_simp
            (refine (VG.out _ hb3).mono ?_; rintro e wv4 ⟨rfl, k⟩; have hb4 := hb3.trans (k.mono hb3.size))
            refine hK.out _ _ ?_ (fun hHeld => ?_)
            · exact Cell.out _ hb4
            clear hK K
            try simp only [Act.put, List.setIfInBounds_toArray, List.set_cons_zero, List.set_cons_succ]
            refine wpAnyT_take (i := 29) (oi := { dst := some 157, op := Op.move (Operand.tmp 156), type := 4, pos := "laws.go:393", after := #[{ on := 28, ground := Ground.data }, { on := 28, ground := Ground.chain }, { on := 24, ground := Ground.guard }], guard := some (24, true) }) (v := ?_) rfl (by kernel_rfl) (fun _ _ _ h => h) (Or.inl ⟨by rfl, ?_⟩) (by assumption) ?_
            rotate_left 1
            · intro w hSw; (try dsimp only at hSw); go_simp; try (with_reducible rfl)
            try simp only [Act.put, List.setIfInBounds_toArray, List.set_cons_zero, List.set_cons_succ]
            refine wpAnyT_take (i := 30) (oi := { dst := some 158, op := Op.move (Operand.tmp 18), type := 4, pos := "laws.go:393", after := #[{ on := 29, ground := Ground.guard }], guard := some (29, true) }) (v := ?_) rfl (by kernel_rfl) (fun _ _ _ h => h) (Or.inl ⟨by rfl, ?_⟩) (by assumption) ?_
            rotate_left 1
            · intro w hSw; (try dsimp only at hSw); go_simp; try (with_reducible rfl)
            try simp only [Act.put, List.setIfInBounds_toArray, List.set_cons_zero, List.set_cons_succ]
            refine wpAnyT_take (i := 31) (oi := { dst := some 159, op := Op.unOp UnOp.not 4 (Operand.tmp 158), type := 4, pos := "laws.go:393", after := #[{ on := 30, ground := Ground.data }, { on := 29, ground := Ground.guard }], guard := some (29, true) }) (v := ?_) rfl (by kernel_rfl) (fun _ _ _ h => h) (Or.inl ⟨by rfl, ?_⟩) (by assumption) ?_
            rotate_left 1
            · intro w hSw; (try dsimp only at hSw); go_simp; try (with_reducible rfl)
            try simp only [Act.put, List.setIfInBounds_toArray, List.set_cons_zero, List.set_cons_succ]
            refine wpAnyT_take (i := 32) (oi := { dst := some 160, op := Op.pick (Operand.tmp 157) (Operand.tmp 159) (Operand.const (Value.bool false)), type := 4, pos := "laws.go:393", after := #[{ on := 29, ground := Ground.data }, { on := 31, ground := Ground.data }, { on := 24, ground := Ground.guard }], guard := some (24, true) }) (v := ?_) rfl (by kernel_rfl) (fun _ _ _ h => h) (Or.inl ⟨by rfl, ?_⟩) (by assumption) ?_
            rotate_left 1
            · intro w hSw; (try dsimp only at hSw); go_simp; try (with_reducible rfl)
            try simp only [Act.put, List.setIfInBounds_toArray, List.set_cons_zero, List.set_cons_succ]
            refine wpAnyT_take (i := 33) (oi := { dst := some 161, op := Op.binOp BinOp.eql 4 (Operand.tmp 154) (Operand.tmp 160) 4, type := 4, pos := "laws.go:393", after := #[{ on := 26, ground := Ground.data }, { on := 32, ground := Ground.data }, { on := 24, ground := Ground.guard }], guard := some (24, true) }) (v := ?_) rfl (by kernel_rfl) (fun _ _ _ h => h) (Or.inl ⟨by rfl, ?_⟩) (by assumption) ?_
            rotate_left 1
            · intro w hSw; (try dsimp only at hSw); go_simp; try (with_reducible rfl)
            try simp only [Act.put, List.setIfInBounds_toArray, List.set_cons_zero, List.set_cons_succ]
            refine wpAnyT_take (i := 34) (oi := { dst := some 162, op := Op.pick (Operand.tmp 152) (Operand.tmp 161) (Operand.const (Value.bool false)), type := 4, pos := "laws.go:393", after := #[{ on := 24, ground := Ground.data }, { on := 33, ground := Ground.data }], guard := none }) (v := ?_) rfl (by kernel_rfl) (fun _ _ _ h => h) (Or.inl ⟨by rfl, ?_⟩) (by assumption) ?_
            rotate_left 1
            · intro w hSw; (try dsimp only at hSw); go_simp; try (with_reducible rfl)
            try simp only [Act.put, List.setIfInBounds_toArray, List.set_cons_zero, List.set_cons_succ]
            refine wpAnyT_ready (rs := [35]) (by kernel_rfl) (by simp) ?_
            refine (AllReadyT.last (o := { dst := some 2, op := Op.assign (Operand.tmp 162), type := 4, pos := "laws.go:393", after := #[{ on := 34, ground := Ground.data }, { on := 29, ground := Ground.chain }, { on := 0, ground := Ground.phase }, { on := 1, ground := Ground.phase }, { on := 2, ground := Ground.phase }, { on := 3, ground := Ground.phase }, { on := 4, ground := Ground.phase }, { on := 5, ground := Ground.phase }, { on := 6, ground := Ground.phase }, { on := 7, ground := Ground.phase }, { on := 8, ground := Ground.phase }, { on := 9, ground := Ground.phase }, { on := 10, ground := Ground.phase }, { on := 11, ground := Ground.phase }, { on := 12, ground := Ground.phase }, { on := 13, ground := Ground.phase }, { on := 14, ground := Ground.phase }, { on := 15, ground := Ground.phase }, { on := 16, ground := Ground.phase }, { on := 17, ground := Ground.phase }, { on := 18, ground := Ground.phase }, { on := 19, ground := Ground.phase }, { on := 20, ground := Ground.phase }, { on := 21, ground := Ground.phase }, { on := 22, ground := Ground.phase }, { on := 23, ground := Ground.phase }, { on := 24, ground := Ground.phase }, { on := 25, ground := Ground.phase }, { on := 26, ground := Ground.phase }, { on := 27, ground := Ground.phase }, { on := 28, ground := Ground.phase }, { on := 29, ground := Ground.phase }, { on := 30, ground := Ground.phase }, { on := 31, ground := Ground.phase }, { on := 32, ground := Ground.phase }, { on := 33, ground := Ground.phase }, { on := 34, ground := Ground.phase }], guard := none }) (rs := []) rfl (by rfl) (fun K hK => ?_) AllReadyT.nil)
            go_simp
            refine hK.out _ _ ?_
            clear hK K
            try simp only [Act.put, List.setIfInBounds_toArray, List.set_cons_zero, List.set_cons_succ]
            refine wpAnyT_done (by kernel_rfl) ?_ _
            go_wp2_with fail
            go_ret
            exact ⟨rfl, HB.out.trans (hb4.mono hle)⟩
          · rw [show (true && !true) = false from rfl] at TC
            rw [show (true && !true) = false from rfl] at TM
            rw [show (true && !true) = false from rfl] at TS
            refine (IC.out _ HBW.out).mono ?_
            rintro e w11 ⟨rfl, k⟩
            replace HBW := Lib.hid (HBW.out.trans (k.mono HBW.out.size))
            obtain ⟨m0, m1, -⟩ := Cell.out _ HBW.out
            clear k
            go_wp2_with fail
            refine (SC.out _ HBW.out).mono ?_
            rintro e w12 ⟨rfl, k⟩
            replace HBW := Lib.hid (HBW.out.trans (k.mono HBW.out.size))
            obtain ⟨m0, m1, -⟩ := Cell.out _ HBW.out
            clear k
            go_wp2_with fail
            refine (TC.out _ HBW.out).mono ?_
            rintro e w13 ⟨rfl, k⟩
            replace HBW := Lib.hid (HBW.out.trans (k.mono HBW.out.size))
            obtain ⟨m0, m1, -⟩ := Cell.out _ HBW.out
            clear k
            obtain ⟨hv, a0, b0, rfl, rfl, ha, hb, hok⟩ := Pr.fault_pair HCC.out
            obtain ⟨u, hu, hul⟩ := Pr.uni_at hv ha hb
            obtain ⟨z, hz, hzl⟩ := Pr.ovl_at hv ha hb
            have Hu := Lib.hid (fun W' => (impl_Union (a0 : Int) (b0 : Int) (Pr.good_at hv ha) (Pr.good_at hv hb) W').mono fun _ w' h => (show _ ∧ w' = W' from ⟨h.1, h.2.symm⟩))
            have Ho := Lib.hid (fun W' => (impl_Overlap (a0 : Int) (b0 : Int) (Pr.good_at hv ha) (Pr.good_at hv hb) W').mono fun _ w' h => (show _ ∧ w' = W' from ⟨h.1, h.2.symm⟩))
            rw [hu] at Hu
            rw [hz] at Ho
            have Va := Lib.hid (Vl.out a0 ha)
            have Vb := Lib.hid (Vl.out b0 hb)
            have Vu := Lib.hid (Vl.out u hul)
            have Vz := Lib.hid (Vl.out z hzl)
            have ba := Gm.vld_at hv ha
            have bb := Gm.vld_at hv hb
            have bu := Gm.vld_at hv hul
            have bz := Gm.vld_at hv hzl
            have hgt : ¬ (g.v.getD a0 0 + g.v.getD b0 0 ≤ g.v.getD u 0 + g.v.getD z 0) := by unfold Pr.okC Pr.at' at hok; rw [hu, hz, Int.toNat_natCast, Int.toNat_natCast] at hok; exact of_decide_eq_false hok
            have hl := Gm.vld_len hv
            have l1 : a0 < 32 := by omega
            have l2 : b0 < 32 := by omega
            have l3 : u < 32 := by omega
            have l4 : z < 32 := by omega
            clear hv hu hz hok hl Vl ha hb hul hzl
            generalize g.v.getD a0 0 = X at *
            generalize g.v.getD b0 0 = Y at *
            generalize g.v.getD u 0 = Z at *
            generalize g.v.getD z 0 = U at *
            have hw1 : IntKind.i64.wrap (X + Y) = X + Y := IntWalk.i64_in _ (by omega)
            have hw2 : IntKind.i64.wrap (Z + U) = Z + U := IntWalk.i64_in _ (by omega)
            have hd : decide (X + Y ≤ Z + U) = false := decide_eq_false hgt
            clear hgt
            go_upto_region 8 with fail
            have hb0 := HBW.out.drew
            refine wp_region_T_drew (S := (fun w' => w'.cell? ⟨q, 0, none⟩ = some x ∧ w'.cell? ⟨q, 1, none⟩ = some v ∧ Below W.heap.size W w')) 21 (by kernel_rfl) ?_ (fun hHeld => ?_)
            · exact Cell.out _ hb0
            refine wpAnyT_take (i := 0) (oi := { dst := some 60, op := Op.move (Operand.tmp 6), type := 4, pos := "laws.go:383", after := #[], guard := none }) (v := ?_) rfl (by kernel_rfl) (fun _ _ _ h => h) (Or.inl ⟨by rfl, ?_⟩) (by assumption) ?_
            rotate_left 1
            · intro w hSw; (try dsimp only at hSw); go_simp; try (with_reducible rfl)
            try simp only [Act.put, List.setIfInBounds_toArray, List.set_cons_zero, List.set_cons_succ]
            refine wpAnyT_take (i := 1) (oi := { dst := some 61, op := Op.move (Operand.tmp 60), type := 4, pos := "laws.go:383", after := #[{ on := 0, ground := Ground.data }], guard := none }) (v := ?_) rfl (by kernel_rfl) (fun _ _ _ h => h) (Or.inl ⟨by rfl, ?_⟩) (by assumption) ?_
            rotate_left 1
            · intro w hSw; (try dsimp only at hSw); go_simp; try (with_reducible rfl)
            try simp only [Act.put, List.setIfInBounds_toArray, List.set_cons_zero, List.set_cons_succ]
            refine wpAnyT_take (i := 2) (oi := { dst := some 62, op := Op.load 26 (Operand.tmp 3), type := 26, pos := "laws.go:383", after := #[{ on := 1, ground := Ground.guard }], guard := some (1, true) }) (v := ?_) rfl (by kernel_rfl) (fun _ _ _ h => h) (Or.inl ⟨by rfl, ?_⟩) (by assumption) ?_
            rotate_left 1
            · intro w hSw; (try dsimp only at hSw); go_simp; try (with_reducible rfl)
            try simp only [Act.put, List.setIfInBounds_toArray, List.set_cons_zero, List.set_cons_succ]
            refine wpAnyT_take (i := 3) (oi := { dst := some 63, op := Op.move (Operand.tmp 4), type := 3, pos := "laws.go:383", after := #[{ on := 1, ground := Ground.guard }], guard := some (1, true) }) (v := ?_) rfl (by kernel_rfl) (fun _ _ _ h => h) (Or.inl ⟨by rfl, ?_⟩) (by assumption) ?_
            rotate_left 1
            · intro w hSw; (try dsimp only at hSw); go_simp; try (with_reducible rfl)
            try simp only [Act.put, List.setIfInBounds_toArray, List.set_cons_zero, List.set_cons_succ]
            refine wpAnyT_take (i := 5) (oi := { dst := some 65, op := Op.load 26 (Operand.tmp 3), type := 26, pos := "laws.go:383", after := #[{ on := 1, ground := Ground.guard }], guard := some (1, true) }) (v := ?_) rfl (by kernel_rfl) (fun _ _ _ h => h) (Or.inl ⟨by rfl, ?_⟩) (by assumption) ?_
            rotate_left 1
            · intro w hSw; (try dsimp only at hSw); go_simp; try (with_reducible rfl)
            try simp only [Act.put, List.setIfInBounds_toArray, List.set_cons_zero, List.set_cons_succ]
            refine wpAnyT_take (i := 6) (oi := { dst := some 66, op := Op.move (Operand.tmp 5), type := 3, pos := "laws.go:383", after := #[{ on := 1, ground := Ground.guard }], guard := some (1, true) }) (v := ?_) rfl (by kernel_rfl) (fun _ _ _ h => h) (Or.inl ⟨by rfl, ?_⟩) (by assumption) ?_
            rotate_left 1
            · intro w hSw; (try dsimp only at hSw); go_simp; try (with_reducible rfl)
            try simp only [Act.put, List.setIfInBounds_toArray, List.set_cons_zero, List.set_cons_succ]
            refine wpAnyT_take (i := 9) (oi := { dst := some 69, op := Op.load 26 (Operand.tmp 3), type := 26, pos := "laws.go:383", after := #[{ on := 1, ground := Ground.guard }], guard := some (1, true) }) (v := ?_) rfl (by kernel_rfl) (fun _ _ _ h => h) (Or.inl ⟨by rfl, ?_⟩) (by assumption) ?_
            rotate_left 1
            · intro w hSw; (try dsimp only at hSw); go_simp; try (with_reducible rfl)
            try simp only [Act.put, List.setIfInBounds_toArray, List.set_cons_zero, List.set_cons_succ]
            refine wpAnyT_take (i := 10) (oi := { dst := some 70, op := Op.move (Operand.tmp 4), type := 3, pos := "laws.go:383", after := #[{ on := 1, ground := Ground.guard }], guard := some (1, true) }) (v := ?_) rfl (by kernel_rfl) (fun _ _ _ h => h) (Or.inl ⟨by rfl, ?_⟩) (by assumption) ?_
            rotate_left 1
            · intro w hSw; (try dsimp only at hSw); go_simp; try (with_reducible rfl)
            try simp only [Act.put, List.setIfInBounds_toArray, List.set_cons_zero, List.set_cons_succ]
            refine wpAnyT_take (i := 11) (oi := { dst := some 71, op := Op.move (Operand.tmp 5), type := 3, pos := "laws.go:383", after := #[{ on := 1, ground := Ground.guard }], guard := some (1, true) }) (v := ?_) rfl (by kernel_rfl) (fun _ _ _ h => h) (Or.inl ⟨by rfl, ?_⟩) (by assumption) ?_
            rotate_left 1
            · intro w hSw; (try dsimp only at hSw); go_simp; try (with_reducible rfl)
            try simp only [Act.put, List.setIfInBounds_toArray, List.set_cons_zero, List.set_cons_succ]
            refine wpAnyT_take (i := 14) (oi := { dst := some 74, op := Op.load 26 (Operand.tmp 3), type := 26, pos := "laws.go:383", after := #[{ on := 1, ground := Ground.guard }], guard := some (1, true) }) (v := ?_) rfl (by kernel_rfl) (fun _ _ _ h => h) (Or.inl ⟨by rfl, ?_⟩) (by assumption) ?_
            rotate_left 1
            · intro w hSw; (try dsimp only at hSw); go_simp; try (with_reducible rfl)
            try simp only [Act.put, List.setIfInBounds_toArray, List.set_cons_zero, List.set_cons_succ]
            refine wpAnyT_take (i := 15) (oi := { dst := some 75, op := Op.move (Operand.tmp 4), type := 3, pos := "laws.go:383", after := #[{ on := 1, ground := Ground.guard }], guard := some (1, true) }) (v := ?_) rfl (by kernel_rfl) (fun _ _ _ h => h) (Or.inl ⟨by rfl, ?_⟩) (by assumption) ?_
            rotate_left 1
            · intro w hSw; (try dsimp only at hSw); go_simp; try (with_reducible rfl)
            try simp only [Act.put, List.setIfInBounds_toArray, List.set_cons_zero, List.set_cons_succ]
            refine wpAnyT_take (i := 16) (oi := { dst := some 76, op := Op.move (Operand.tmp 5), type := 3, pos := "laws.go:383", after := #[{ on := 1, ground := Ground.guard }], guard := some (1, true) }) (v := ?_) rfl (by kernel_rfl) (fun _ _ _ h => h) (Or.inl ⟨by rfl, ?_⟩) (by assumption) ?_
            rotate_left 1
            · intro w hSw; (try dsimp only at hSw); go_simp; try (with_reducible rfl)
            try simp only [Act.put, List.setIfInBounds_toArray, List.set_cons_zero, List.set_cons_succ]
            refine wpAnyT_ready (rs := [4]) (by kernel_rfl) (by simp) ?_
            refine (AllReadyT.cons (o := { dst := some 64, op := Op.call { callee := Callee.value (Operand.func 18), args := #[Operand.tmp 62, Operand.tmp 63], argTypes := #[26, 3] }, type := 3, pos := "laws.go:383", after := #[{ on := 2, ground := Ground.data }, { on := 3, ground := Ground.data }, { on := 1, ground := Ground.chain }, { on := 1, ground := Ground.guard }], guard := some (1, true) }) (rs := []) rfl (fun K hK => ?_) AllReadyT.nil)
            go_simp
            (refine (Va.out _ hb0).mono ?_; rintro e wv1 ⟨rfl, k⟩; have hb1 := hb0.trans (k.mono hb0.size))
            refine hK.out _ _ ?_ (fun hHeld => ?_)
            · exact Cell.out _ hb1
            clear hK K
            try simp only [Act.put, List.setIfInBounds_toArray, List.set_cons_zero, List.set_cons_succ]
            refine wpAnyT_ready (rs := [7]) (by kernel_rfl) (by simp) ?_
            refine (AllReadyT.cons (o := { dst := some 67, op := Op.call { callee := Callee.value (Operand.func 18), args := #[Operand.tmp 65, Operand.tmp 66], argTypes := #[26, 3] }, type := 3, pos := "laws.go:383", after := #[{ on := 5, ground := Ground.data }, { on := 6, ground := Ground.data }, { on := 4, ground := Ground.chain }, { on := 1, ground := Ground.guard }], guard := some (1, true) }) (rs := []) rfl (fun K hK => ?_) AllReadyT.nil)
            go_simp
            (refine (Vb.out _ hb1).mono ?_; rintro e wv2 ⟨rfl, k⟩; have hb2 := hb1.trans (k.mono hb1.size))
            refine hK.out _ _ ?_ (fun hHeld => ?_)
            · exact Cell.out _ hb2
            clear hK K
            try simp only [Act.put, List.setIfInBounds_toArray, List.set_cons_zero, List.set_cons_succ]
            refine wpAnyT_take (i := 8) (oi := { dst := some 68, op := Op.binOp BinOp.add 3 (Operand.tmp 64) (Operand.tmp 67) 3, type := 3, pos := "laws.go:383", after := #[{ on := 4, ground := Ground.data }, { on := 7, ground := Ground.data }, { on := 1, ground := Ground.guard }], guard := some (1, true) }) (v := ?_) rfl (by kernel_rfl) (fun _ _ _ h => h) (Or.inl ⟨by rfl, ?_⟩) (by assumption) ?_
            rotate_left 1
            · intro w hSw; (try dsimp only at hSw); go_simp; try (with_reducible rfl)
            try simp only [Act.put, List.setIfInBounds_toArray, List.set_cons_zero, List.set_cons_succ]
            refine wpAnyT_ready (rs := [12]) (by kernel_rfl) (by simp) ?_
            refine (AllReadyT.cons (o := { dst := some 72, op := Op.call { callee := Callee.value (Operand.func 19), args := #[Operand.tmp 70, Operand.tmp 71], argTypes := #[3, 3] }, type := 3, pos := "laws.go:383", after := #[{ on := 10, ground := Ground.data }, { on := 11, ground := Ground.data }, { on := 7, ground := Ground.chain }, { on := 1, ground := Ground.guard }], guard := some (1, true) }) (rs := []) rfl (fun K hK => ?_) AllReadyT.nil)
            go_simp
            (refine (Hu.out _).mono ?_; rintro e wu ⟨rfl, rfl⟩)
            refine hK.out _ _ ?_ (fun hHeld => ?_)
            · exact Cell.out _ hb2
            clear hK K
            try simp only [Act.put, List.setIfInBounds_toArray, List.set_cons_zero, List.set_cons_succ]
            refine wpAnyT_ready (rs := [13]) (by kernel_rfl) (by simp) ?_
            refine (AllReadyT.cons (o := { dst := some 73, op := Op.call { callee := Callee.value (Operand.func 18), args := #[Operand.tmp 69, Operand.tmp 72], argTypes := #[26, 3] }, type := 3, pos := "laws.go:383", after := #[{ on := 9, ground := Ground.data }, { on := 12, ground := Ground.data }, { on := 12, ground := Ground.chain }, { on := 1, ground := Ground.guard }], guard := some (1, true) }) (rs := []) rfl (fun K hK => ?_) AllReadyT.nil)
            go_simp
            (refine (Vu.out _ hb2).mono ?_; rintro e wv3 ⟨rfl, k⟩; have hb3 := hb2.trans (k.mono hb2.size))
            refine hK.out _ _ ?_ (fun hHeld => ?_)
            · exact Cell.out _ hb3
            clear hK K
            try simp only [Act.put, List.setIfInBounds_toArray, List.set_cons_zero, List.set_cons_succ]
            refine wpAnyT_ready (rs := [17]) (by kernel_rfl) (by simp) ?_
            refine (AllReadyT.cons (o := { dst := some 77, op := Op.call { callee := Callee.value (Operand.func 20), args := #[Operand.tmp 75, Operand.tmp 76], argTypes := #[3, 3] }, type := 3, pos := "laws.go:383", after := #[{ on := 15, ground := Ground.data }, { on := 16, ground := Ground.data }, { on := 13, ground := Ground.chain }, { on := 1, ground := Ground.guard }], guard := some (1, true) }) (rs := []) rfl (fun K hK => ?_) AllReadyT.nil)
            go_simp
            (refine (Ho.out _).mono ?_; rintro e wo ⟨rfl, rfl⟩)
            refine hK.out _ _ ?_ (fun hHeld => ?_)
            · exact Cell.out _ hb3
            clear hK K
            try simp only [Act.put, List.setIfInBounds_toArray, List.set_cons_zero, List.set_cons_succ]
            refine wpAnyT_ready (rs := [18]) (by kernel_rfl) (by simp) ?_
            refine (AllReadyT.cons (o := { dst := some 78, op := Op.call { callee := Callee.value (Operand.func 18), args := #[Operand.tmp 74, Operand.tmp 77], argTypes := #[26, 3] }, type := 3, pos := "laws.go:383", after := #[{ on := 14, ground := Ground.data }, { on := 17, ground := Ground.data }, { on := 17, ground := Ground.chain }, { on := 1, ground := Ground.guard }], guard := some (1, true) }) (rs := []) rfl (fun K hK => ?_) AllReadyT.nil)
            go_simp
            (refine (Vz.out _ hb3).mono ?_; rintro e wv4 ⟨rfl, k⟩; have hb4 := hb3.trans (k.mono hb3.size))
            refine hK.out _ _ ?_ (fun hHeld => ?_)
            · exact Cell.out _ hb4
            clear hK K
            try simp only [Act.put, List.setIfInBounds_toArray, List.set_cons_zero, List.set_cons_succ]
            refine wpAnyT_take (i := 19) (oi := { dst := some 79, op := Op.binOp BinOp.add 3 (Operand.tmp 73) (Operand.tmp 78) 3, type := 3, pos := "laws.go:383", after := #[{ on := 13, ground := Ground.data }, { on := 18, ground := Ground.data }, { on := 1, ground := Ground.guard }], guard := some (1, true) }) (v := ?_) rfl (by kernel_rfl) (fun _ _ _ h => h) (Or.inl ⟨by rfl, ?_⟩) (by assumption) ?_
            rotate_left 1
            · intro w hSw; (try dsimp only at hSw); go_simp; try (with_reducible rfl)
            try simp only [Act.put, List.setIfInBounds_toArray, List.set_cons_zero, List.set_cons_succ]
            refine wpAnyT_take (i := 20) (oi := { dst := some 80, op := Op.binOp BinOp.leq 3 (Operand.tmp 68) (Operand.tmp 79) 3, type := 4, pos := "laws.go:383", after := #[{ on := 8, ground := Ground.data }, { on := 19, ground := Ground.data }, { on := 1, ground := Ground.guard }], guard := some (1, true) }) (v := ?_) rfl (by kernel_rfl) (fun _ _ _ h => h) (Or.inl ⟨by rfl, ?_⟩) (by assumption) ?_
            rotate_left 1
            · intro w hSw; (try dsimp only at hSw); go_simp; try (with_reducible rfl)
            try simp only [Act.put, List.setIfInBounds_toArray, List.set_cons_zero, List.set_cons_succ]
            refine wpAnyT_ready (rs := [21]) (by kernel_rfl) (by simp) ?_
            refine (AllReadyT.last (o := { dst := some 81, op := Op.pick (Operand.tmp 61) (Operand.tmp 80) (Operand.const (Value.bool false)), type := 4, pos := "laws.go:383", after := #[{ on := 1, ground := Ground.data }, { on := 20, ground := Ground.data }], guard := none }) (rs := []) rfl (by rfl) (fun K hK => ?_) AllReadyT.nil)
            go_simp
            refine hK.out _ _ ?_
            clear hK K
            try simp only [Act.put, List.setIfInBounds_toArray, List.set_cons_zero, List.set_cons_succ]
            refine wpAnyT_done (by kernel_rfl) ?_ _
            replace HBW := Lib.hid hb4
            obtain ⟨m0, m1, -⟩ := Cell.out _ HBW.out
            go_wp2_with fail
            refine (IM.out _ HBW.out).mono ?_
            rintro e w14 ⟨rfl, k⟩
            replace HBW := Lib.hid (HBW.out.trans (k.mono HBW.out.size))
            obtain ⟨m0, m1, -⟩ := Cell.out _ HBW.out
            clear k
            go_wp2_with fail
            refine (SM.out _ HBW.out).mono ?_
            rintro e w15 ⟨rfl, k⟩
            replace HBW := Lib.hid (HBW.out.trans (k.mono HBW.out.size))
            obtain ⟨m0, m1, -⟩ := Cell.out _ HBW.out
            clear k
            obtain ⟨hv, e0, f0, rfl, rfl, ha, hb, hok⟩ := Pr.fault_pair HMM.out
            have hsub : Co.sub (e0 : Int) (f0 : Int) 5 = true := by
              unfold Pr.okM at hok
              rcases hs : Co.sub (e0 : Int) (f0 : Int) 5 with _ | _
              · rw [hs] at hok; simp at hok
              · rfl
            have HSb := Lib.hid (impl_IsSubset (e0 : Int) (f0 : Int) (Pr.good_at hv ha) (Pr.good_at hv hb) true hsub)
            clear hv ha hb hok hsub
            go_wp2_with fail
            refine (HSb.out _).mono ?_
            rintro e ws ⟨rfl, rfl⟩
            go_wp2_with fail
            refine (IS.out _ HBW.out).mono ?_
            rintro e w16 ⟨rfl, k⟩
            replace HBW := Lib.hid (HBW.out.trans (k.mono HBW.out.size))
            obtain ⟨m0, m1, -⟩ := Cell.out _ HBW.out
            clear k
            go_wp2_with fail
            refine (SS.out _ HBW.out).mono ?_
            rintro e w17 ⟨rfl, k⟩
            replace HBW := Lib.hid (HBW.out.trans (k.mono HBW.out.size))
            obtain ⟨m0, m1, -⟩ := Cell.out _ HBW.out
            clear k
            go_upto_region 16 with fail
            have hb0 := HBW.out.drew
            refine wp_region_T_drew (S := (fun w' => w'.cell? ⟨q, 0, none⟩ = some x ∧ w'.cell? ⟨q, 1, none⟩ = some v ∧ Below W.heap.size W w')) 35 (by kernel_rfl) ?_ (fun hHeld => ?_)
            · exact Cell.out _ hb0
            refine wpAnyT_take (i := 0) (oi := { dst := some 128, op := Op.move (Operand.tmp 16), type := 3, pos := "laws.go:393", after := #[], guard := none }) (v := ?_) rfl (by kernel_rfl) (fun _ _ _ h => h) (Or.inl ⟨by rfl, ?_⟩) (by assumption) ?_
            rotate_left 1
            · intro w hSw; (try dsimp only at hSw); go_simp; try (with_reducible rfl)
            try simp only [Act.put, List.setIfInBounds_toArray, List.set_cons_zero, List.set_cons_succ]
            refine wpAnyT_take (i := 1) (oi := { dst := some 129, op := Op.move (Operand.tmp 19), type := 3, pos := "laws.go:393", after := #[], guard := none }) (v := ?_) rfl (by kernel_rfl) (fun _ _ _ h => h) (Or.inl ⟨by rfl, ?_⟩) (by assumption) ?_
            rotate_left 1
            · intro w hSw; (try dsimp only at hSw); go_simp; try (with_reducible rfl)
            try simp only [Act.put, List.setIfInBounds_toArray, List.set_cons_zero, List.set_cons_succ]
            refine wpAnyT_take (i := 2) (oi := { dst := some 130, op := Op.binOp BinOp.eql 3 (Operand.tmp 128) (Operand.tmp 129) 3, type := 4, pos := "laws.go:393", after := #[{ on := 0, ground := Ground.data }, { on := 1, ground := Ground.data }], guard := none }) (v := ?_) rfl (by kernel_rfl) (fun _ _ _ h => h) (Or.inl ⟨by rfl, ?_⟩) (by assumption) ?_
            rotate_left 1
            · intro w hSw; (try dsimp only at hSw); go_simp; try (with_reducible rfl)
            try simp only [Act.put, List.setIfInBounds_toArray, List.set_cons_zero, List.set_cons_succ]
            refine wpAnyT_take (i := 3) (oi := { dst := some 131, op := Op.move (Operand.tmp 130), type := 4, pos := "laws.go:393", after := #[{ on := 2, ground := Ground.data }], guard := none }) (v := ?_) rfl (by kernel_rfl) (fun _ _ _ h => h) (Or.inl ⟨by rfl, ?_⟩) (by assumption) ?_
            rotate_left 1
            · intro w hSw; (try dsimp only at hSw); go_simp; try (with_reducible rfl)
            try simp only [Act.put, List.setIfInBounds_toArray, List.set_cons_zero, List.set_cons_succ]
            refine wpAnyT_take (i := 4) (oi := { dst := some 132, op := Op.move (Operand.tmp 17), type := 3, pos := "laws.go:393", after := #[{ on := 3, ground := Ground.guard }], guard := some (3, true) }) (v := ?_) rfl (by kernel_rfl) (fun _ _ _ h => h) (Or.inl ⟨by rfl, ?_⟩) (by assumption) ?_
            rotate_left 1
            · intro w hSw; (try dsimp only at hSw); go_simp; try (with_reducible rfl)
            try simp only [Act.put, List.setIfInBounds_toArray, List.set_cons_zero, List.set_cons_succ]
            refine wpAnyT_take (i := 5) (oi := { dst := some 133, op := Op.move (Operand.tmp 20), type := 3, pos := "laws.go:393", after := #[{ on := 3, ground := Ground.guard }], guard := some (3, true) }) (v := ?_) rfl (by kernel_rfl) (fun _ _ _ h => h) (Or.inl ⟨by rfl, ?_⟩) (by assumption) ?_
            rotate_left 1
            · intro w hSw; (try dsimp only at hSw); go_simp; try (with_reducible rfl)
            try simp only [Act.put, List.setIfInBounds_toArray, List.set_cons_zero, List.set_cons_succ]
            refine wpAnyT_take (i := 6) (oi := { dst := some 134, op := Op.binOp BinOp.eql 3 (Operand.tmp 132) (Operand.tmp 133) 3, type := 4, pos := "laws.go:393", after := #[{ on := 4, ground := Ground.data }, { on := 5, ground := Ground.data }, { on := 3, ground := Ground.guard }], guard := some (3, true) }) (v := ?_) rfl (by kernel_rfl) (fun _ _ _ h => h) (Or.inl ⟨by rfl, ?_⟩) (by assumption) ?_
            rotate_left 1
            · intro w hSw; (try dsimp only at hSw); go_simp; try (with_reducible rfl)
            try simp only [Act.put, List.setIfInBounds_toArray, List.set_cons_zero, List.set_cons_succ]
            refine wpAnyT_take (i := 7) (oi := { dst := some 135, op := Op.pick (Operand.tmp 131) (Operand.tmp 134) (Operand.const (Value.bool false)), type := 4, pos := "laws.go:393", after := #[{ on := 3, ground := Ground.data }, { on := 6, ground := Ground.data }], guard := none }) (v := ?_) rfl (by kernel_rfl) (fun _ _ _ h => h) (Or.inl ⟨by rfl, ?_⟩) (by assumption) ?_
            rotate_left 1
            · intro w hSw; (try dsimp only at hSw); go_simp; try (with_reducible rfl)
            try simp only [Act.put, List.setIfInBounds_toArray, List.set_cons_zero, List.set_cons_succ]
            refine wpAnyT_take (i := 8) (oi := { dst := some 136, op := Op.move (Operand.tmp 135), type := 4, pos := "laws.go:393", after := #[{ on := 7, ground := Ground.data }, { on := 3, ground := Ground.chain }], guard := none }) (v := ?_) rfl (by kernel_rfl) (fun _ _ _ h => h) (Or.inl ⟨by rfl, ?_⟩) (by assumption) ?_
            rotate_left 1
            · intro w hSw; (try dsimp only at hSw); go_simp; try (with_reducible rfl)
            try simp only [Act.put, List.setIfInBounds_toArray, List.set_cons_zero, List.set_cons_succ]
            refine wpAnyT_take (i := 9) (oi := { dst := some 137, op := Op.move (Operand.tmp 18), type := 4, pos := "laws.go:393", after := #[{ on := 8, ground := Ground.guard }], guard := some (8, true) }) (v := ?_) rfl (by kernel_rfl) (fun _ _ _ h => h) (Or.inl ⟨by rfl, ?_⟩) (by assumption) ?_
            rotate_left 1
            · intro w hSw; (try dsimp only at hSw); go_simp; try (with_reducible rfl)
            try simp only [Act.put, List.setIfInBounds_toArray, List.set_cons_zero, List.set_cons_succ]
            refine wpAnyT_take (i := 10) (oi := { dst := some 138, op := Op.move (Operand.tmp 21), type := 4, pos := "laws.go:393", after := #[{ on := 8, ground := Ground.guard }], guard := some (8, true) }) (v := ?_) rfl (by kernel_rfl) (fun _ _ _ h => h) (Or.inl ⟨by rfl, ?_⟩) (by assumption) ?_
            rotate_left 1
            · intro w hSw; (try dsimp only at hSw); go_simp; try (with_reducible rfl)
            try simp only [Act.put, List.setIfInBounds_toArray, List.set_cons_zero, List.set_cons_succ]
            refine wpAnyT_take (i := 11) (oi := { dst := some 139, op := Op.binOp BinOp.eql 4 (Operand.tmp 137) (Operand.tmp 138) 4, type := 4, pos := "laws.go:393", after := #[{ on := 9, ground := Ground.data }, { on := 10, ground := Ground.data }, { on := 8, ground := Ground.guard }], guard := some (8, true) }) (v := ?_) rfl (by kernel_rfl) (fun _ _ _ h => h) (Or.inl ⟨by rfl, ?_⟩) (by assumption) ?_
            rotate_left 1
            · intro w hSw; (try dsimp only at hSw); go_simp; try (with_reducible rfl)
            try simp only [Act.put, List.setIfInBounds_toArray, List.set_cons_zero, List.set_cons_succ]
            refine wpAnyT_take (i := 12) (oi := { dst := some 140, op := Op.pick (Operand.tmp 136) (Operand.tmp 139) (Operand.const (Value.bool false)), type := 4, pos := "laws.go:393", after := #[{ on := 8, ground := Ground.data }, { on := 11, ground := Ground.data }], guard := none }) (v := ?_) rfl (by kernel_rfl) (fun _ _ _ h => h) (Or.inl ⟨by rfl, ?_⟩) (by assumption) ?_
            rotate_left 1
            · intro w hSw; (try dsimp only at hSw); go_simp; try (with_reducible rfl)
            try simp only [Act.put, List.setIfInBounds_toArray, List.set_cons_zero, List.set_cons_succ]
            refine wpAnyT_take (i := 13) (oi := { dst := some 141, op := Op.move (Operand.tmp 140), type := 4, pos := "laws.go:393", after := #[{ on := 12, ground := Ground.data }, { on := 8, ground := Ground.chain }], guard := none }) (v := ?_) rfl (by kernel_rfl) (fun _ _ _ h => h) (Or.inl ⟨by rfl, ?_⟩) (by assumption) ?_
            rotate_left 1
            · intro w hSw; (try dsimp only at hSw); go_simp; try (with_reducible rfl)
            try simp only [Act.put, List.setIfInBounds_toArray, List.set_cons_zero, List.set_cons_succ]
            refine wpAnyT_take (i := 14) (oi := { dst := some 142, op := Op.load 26 (Operand.tmp 3), type := 26, pos := "laws.go:393", after := #[{ on := 13, ground := Ground.guard }], guard := some (13, true) }) (v := ?_) rfl (by kernel_rfl) (fun _ _ _ h => h) (Or.inl ⟨by rfl, ?_⟩) (by assumption) ?_
            rotate_left 1
            · intro w hSw; (try dsimp only at hSw); go_simp; try (with_reducible rfl)
            try simp only [Act.put, List.setIfInBounds_toArray, List.set_cons_zero, List.set_cons_succ]
            refine wpAnyT_take (i := 16) (oi := { dst := some 144, op := Op.load 26 (Operand.tmp 3), type := 26, pos := "laws.go:393", after := #[{ on := 13, ground := Ground.guard }], guard := some (13, true) }) (v := ?_) rfl (by kernel_rfl) (fun _ _ _ h => h) (Or.inl ⟨by rfl, ?_⟩) (by assumption) ?_
            rotate_left 1
            · intro w hSw; (try dsimp only at hSw); go_simp; try (with_reducible rfl)
            try simp only [Act.put, List.setIfInBounds_toArray, List.set_cons_zero, List.set_cons_succ]
            refine wpAnyT_ready (rs := [15]) (by kernel_rfl) (by simp) ?_
            refine (AllReadyT.cons (o := { dst := some 143, op := Op.call { callee := Callee.value (Operand.func 26), args := #[Operand.tmp 142], argTypes := #[26] }, type := 4, pos := "laws.go:393", after := #[{ on := 14, ground := Ground.data }, { on := 13, ground := Ground.chain }, { on := 13, ground := Ground.guard }], guard := some (13, true) }) (rs := []) rfl (fun K hK => ?_) AllReadyT.nil)
            go_simp
            (refine (TM.out _ hb0).mono ?_; rintro e wv1 ⟨rfl, k⟩; have hb1 := hb0.trans (k.mono hb0.size))
            refine hK.out _ _ ?_ (fun hHeld => ?_)
            · exact Cell.out _ hb1
            clear hK K
            try simp only [Act.put, List.setIfInBounds_toArray, List.set_cons_zero, List.set_cons_succ]
            refine wpAnyT_ready (rs := [17]) (by kernel_rfl) (by simp) ?_
            refine (AllReadyT.cons (o := { dst := some 145, op := Op.call { callee := Callee.value (Operand.func 27), args := #[Operand.tmp 144], argTypes := #[26] }, type := 4, pos := "laws.go:393", after := #[{ on := 16, ground := Ground.data }, { on := 15, ground := Ground.chain }, { on := 13, ground := Ground.guard }], guard := some (13, true) }) (rs := []) rfl (fun K hK => ?_) AllReadyT.nil)
            go_simp
            (refine (VG.out _ hb1).mono ?_; rintro e wv2 ⟨rfl, k⟩; have hb2 := hb1.trans (k.mono hb1.size))
            refine hK.out _ _ ?_ (fun hHeld => ?_)
            · exact Cell.out _ hb2
            clear hK K
            try simp only [Act.put, List.setIfInBounds_toArray, List.set_cons_zero, List.set_cons_succ]
            refine wpAnyT_take (i := 18) (oi := { dst := some 146, op := Op.move (Operand.tmp 145), type := 4, pos := "laws.go:393", after := #[{ on := 17, ground := Ground.data }, { on := 17, ground := Ground.chain }, { on := 13, ground := Ground.guard }], guard := some (13, true) }) (v := ?_) rfl (by kernel_rfl) (fun _ _ _ h => h) (Or.inl ⟨by rfl, ?_⟩) (by assumption) ?_
            rotate_left 1
            · intro w hSw; (try dsimp only at hSw); go_simp; try (with_reducible rfl)
            try simp only [Act.put, List.setIfInBounds_toArray, List.set_cons_zero, List.set_cons_succ]
            refine wpAnyT_take (i := 19) (oi := { dst := some 147, op := Op.move (Operand.tmp 12), type := 4, pos := "laws.go:393", after := #[{ on := 18, ground := Ground.guard }], guard := some (18, true) }) (v := ?_) rfl (by kernel_rfl) (fun _ _ _ h => h) (Or.inl ⟨by rfl, ?_⟩) (by assumption) ?_
            rotate_left 1
            · intro w hSw; (try dsimp only at hSw); go_simp; try (with_reducible rfl)
            try simp only [Act.put, List.setIfInBounds_toArray, List.set_cons_zero, List.set_cons_succ]
            refine wpAnyT_take (i := 20) (oi := { dst := some 148, op := Op.unOp UnOp.not 4 (Operand.tmp 147), type := 4, pos := "laws.go:393", after := #[{ on := 19, ground := Ground.data }, { on := 18, ground := Ground.guard }], guard := some (18, true) }) (v := ?_) rfl (by kernel_rfl) (fun _ _ _ h => h) (Or.inl ⟨by rfl, ?_⟩) (by assumption) ?_
            rotate_left 1
            · intro w hSw; (try dsimp only at hSw); go_simp; try (with_reducible rfl)
            try simp only [Act.put, List.setIfInBounds_toArray, List.set_cons_zero, List.set_cons_succ]
            refine wpAnyT_take (i := 21) (oi := { dst := some 149, op := Op.pick (Operand.tmp 146) (Operand.tmp 148) (Operand.const (Value.bool false)), type := 4, pos := "laws.go:393", after := #[{ on := 18, ground := Ground.data }, { on := 20, ground := Ground.data }, { on := 13, ground := Ground.guard }], guard := some (13, true) }) (v := ?_) rfl (by kernel_rfl) (fun _ _ _ h => h) (Or.inl ⟨by rfl, ?_⟩) (by assumption) ?_
            rotate_left 1
            · intro w hSw; (try dsimp only at hSw); go_simp; try (with_reducible rfl)
            try simp only [Act.put, List.setIfInBounds_toArray, List.set_cons_zero, List.set_cons_succ]
            refine wpAnyT_take (i := 22) (oi := { dst := some 150, op := Op.binOp BinOp.eql 4 (Operand.tmp 143) (Operand.tmp 149) 4, type := 4, pos := "laws.go:393", after := #[{ on := 15, ground := Ground.data }, { on := 21, ground := Ground.data }, { on := 13, ground := Ground.guard }], guard := some (13, true) }) (v := ?_) rfl (by kernel_rfl) (fun _ _ _ h => h) (Or.inl ⟨by rfl, ?_⟩) (by assumption) ?_
            rotate_left 1
            · intro w hSw; (try dsimp only at hSw); go_simp; try (with_reducible rfl)
            try simp only [Act.put, List.setIfInBounds_toArray, List.set_cons_zero, List.set_cons_succ]
            refine wpAnyT_take (i := 23) (oi := { dst := some 151, op := Op.pick (Operand.tmp 141) (Operand.tmp 150) (Operand.const (Value.bool false)), type := 4, pos := "laws.go:393", after := #[{ on := 13, ground := Ground.data }, { on := 22, ground := Ground.data }], guard := none }) (v := ?_) rfl (by kernel_rfl) (fun _ _ _ h => h) (Or.inl ⟨by rfl, ?_⟩) (by assumption) ?_
            rotate_left 1
            · intro w hSw; (try dsimp only at hSw); go_simp; try (with_reducible rfl)
            try simp only [Act.put, List.setIfInBounds_toArray, List.set_cons_zero, List.set_cons_succ]
            refine wpAnyT_take (i := 24) (oi := { dst := some 152, op := Op.move (Operand.tmp 151), type := 4, pos := "laws.go:393", after := #[{ on := 23, ground := Ground.data }, { on := 18, ground := Ground.chain }], guard := none }) (v := ?_) rfl (by kernel_rfl) (fun _ _ _ h => h) (Or.inl ⟨by rfl, ?_⟩) (by assumption) ?_
            rotate_left 1
            · intro w hSw; (try dsimp only at hSw); go_simp; try (with_reducible rfl)
            try simp only [Act.put, List.setIfInBounds_toArray, List.set_cons_zero, List.set_cons_succ]
            refine wpAnyT_take (i := 25) (oi := { dst := some 153, op := Op.load 26 (Operand.tmp 3), type := 26, pos := "laws.go:393", after := #[{ on := 24, ground := Ground.guard }], guard := some (24, true) }) (v := ?_) rfl (by kernel_rfl) (fun _ _ _ h => h) (Or.inl ⟨by rfl, ?_⟩) (by assumption) ?_
            rotate_left 1
            · intro w hSw; (try dsimp only at hSw); go_simp; try (with_reducible rfl)
            try simp only [Act.put, List.setIfInBounds_toArray, List.set_cons_zero, List.set_cons_succ]
            refine wpAnyT_take (i := 27) (oi := { dst := some 155, op := Op.load 26 (Operand.tmp 3), type := 26, pos := "laws.go:393", after := #[{ on := 24, ground := Ground.guard }], guard := some (24, true) }) (v := ?_) rfl (by kernel_rfl) (fun _ _ _ h => h) (Or.inl ⟨by rfl, ?_⟩) (by assumption) ?_
            rotate_left 1
            · intro w hSw; (try dsimp only at hSw); go_simp; try (with_reducible rfl)
            try simp only [Act.put, List.setIfInBounds_toArray, List.set_cons_zero, List.set_cons_succ]
            refine wpAnyT_ready (rs := [26]) (by kernel_rfl) (by simp) ?_
            refine (AllReadyT.cons (o := { dst := some 154, op := Op.call { callee := Callee.value (Operand.func 17), args := #[Operand.tmp 153], argTypes := #[26] }, type := 4, pos := "laws.go:393", after := #[{ on := 25, ground := Ground.data }, { on := 24, ground := Ground.chain }, { on := 24, ground := Ground.guard }], guard := some (24, true) }) (rs := []) rfl (fun K hK => ?_) AllReadyT.nil)
            go_simp
            (refine (TS.out _ hb2).mono ?_; rintro e wv3 ⟨rfl, k⟩; have hb3 := hb2.trans (k.mono hb2.size))
            refine hK.out _ _ ?_ (fun hHeld => ?_)
            · exact Cell.out _ hb3
            clear hK K
            try simp only [Act.put, List.setIfInBounds_toArray, List.set_cons_zero, List.set_cons_succ]
            refine wpAnyT_ready (rs := [28]) (by kernel_rfl) (by simp) ?_
            refine (AllReadyT.cons (o := { dst := some 156, op := Op.call { callee := Callee.value (Operand.func 27), args := #[Operand.tmp 155], argTypes := #[26] }, type := 4, pos := "laws.go:393", after := #[{ on := 27, ground := Ground.data }, { on := 26, ground := Ground.chain }, { on := 24, ground := Ground.guard }], guard := some (24, true) }) (rs := []) rfl (fun K hK => ?_) AllReadyT.nil)
            go_simp
            (refine (VG.out _ hb3).mono ?_; rintro e wv4 ⟨rfl, k⟩; have hb4 := hb3.trans (k.mono hb3.size))
            refine hK.out _ _ ?_ (fun hHeld => ?_)
            · exact Cell.out _ hb4
            clear hK K
            try simp only [Act.put, List.setIfInBounds_toArray, List.set_cons_zero, List.set_cons_succ]
            refine wpAnyT_take (i := 29) (oi := { dst := some 157, op := Op.move (Operand.tmp 156), type := 4, pos := "laws.go:393", after := #[{ on := 28, ground := Ground.data }, { on := 28, ground := Ground.chain }, { on := 24, ground := Ground.guard }], guard := some (24, true) }) (v := ?_) rfl (by kernel_rfl) (fun _ _ _ h => h) (Or.inl ⟨by rfl, ?_⟩) (by assumption) ?_
            rotate_left 1
            · intro w hSw; (try dsimp only at hSw); go_simp; try (with_reducible rfl)
            try simp only [Act.put, List.setIfInBounds_toArray, List.set_cons_zero, List.set_cons_succ]
            refine wpAnyT_take (i := 30) (oi := { dst := some 158, op := Op.move (Operand.tmp 18), type := 4, pos := "laws.go:393", after := #[{ on := 29, ground := Ground.guard }], guard := some (29, true) }) (v := ?_) rfl (by kernel_rfl) (fun _ _ _ h => h) (Or.inl ⟨by rfl, ?_⟩) (by assumption) ?_
            rotate_left 1
            · intro w hSw; (try dsimp only at hSw); go_simp; try (with_reducible rfl)
            try simp only [Act.put, List.setIfInBounds_toArray, List.set_cons_zero, List.set_cons_succ]
            refine wpAnyT_take (i := 31) (oi := { dst := some 159, op := Op.unOp UnOp.not 4 (Operand.tmp 158), type := 4, pos := "laws.go:393", after := #[{ on := 30, ground := Ground.data }, { on := 29, ground := Ground.guard }], guard := some (29, true) }) (v := ?_) rfl (by kernel_rfl) (fun _ _ _ h => h) (Or.inl ⟨by rfl, ?_⟩) (by assumption) ?_
            rotate_left 1
            · intro w hSw; (try dsimp only at hSw); go_simp; try (with_reducible rfl)
            try simp only [Act.put, List.setIfInBounds_toArray, List.set_cons_zero, List.set_cons_succ]
            refine wpAnyT_take (i := 32) (oi := { dst := some 160, op := Op.pick (Operand.tmp 157) (Operand.tmp 159) (Operand.const (Value.bool false)), type := 4, pos := "laws.go:393", after := #[{ on := 29, ground := Ground.data }, { on := 31, ground := Ground.data }, { on := 24, ground := Ground.guard }], guard := some (24, true) }) (v := ?_) rfl (by kernel_rfl) (fun _ _ _ h => h) (Or.inl ⟨by rfl, ?_⟩) (by assumption) ?_
            rotate_left 1
            · intro w hSw; (try dsimp only at hSw); go_simp; try (with_reducible rfl)
            try simp only [Act.put, List.setIfInBounds_toArray, List.set_cons_zero, List.set_cons_succ]
            refine wpAnyT_take (i := 33) (oi := { dst := some 161, op := Op.binOp BinOp.eql 4 (Operand.tmp 154) (Operand.tmp 160) 4, type := 4, pos := "laws.go:393", after := #[{ on := 26, ground := Ground.data }, { on := 32, ground := Ground.data }, { on := 24, ground := Ground.guard }], guard := some (24, true) }) (v := ?_) rfl (by kernel_rfl) (fun _ _ _ h => h) (Or.inl ⟨by rfl, ?_⟩) (by assumption) ?_
            rotate_left 1
            · intro w hSw; (try dsimp only at hSw); go_simp; try (with_reducible rfl)
            try simp only [Act.put, List.setIfInBounds_toArray, List.set_cons_zero, List.set_cons_succ]
            refine wpAnyT_take (i := 34) (oi := { dst := some 162, op := Op.pick (Operand.tmp 152) (Operand.tmp 161) (Operand.const (Value.bool false)), type := 4, pos := "laws.go:393", after := #[{ on := 24, ground := Ground.data }, { on := 33, ground := Ground.data }], guard := none }) (v := ?_) rfl (by kernel_rfl) (fun _ _ _ h => h) (Or.inl ⟨by rfl, ?_⟩) (by assumption) ?_
            rotate_left 1
            · intro w hSw; (try dsimp only at hSw); go_simp; try (with_reducible rfl)
            try simp only [Act.put, List.setIfInBounds_toArray, List.set_cons_zero, List.set_cons_succ]
            refine wpAnyT_ready (rs := [35]) (by kernel_rfl) (by simp) ?_
            refine (AllReadyT.last (o := { dst := some 2, op := Op.assign (Operand.tmp 162), type := 4, pos := "laws.go:393", after := #[{ on := 34, ground := Ground.data }, { on := 29, ground := Ground.chain }, { on := 0, ground := Ground.phase }, { on := 1, ground := Ground.phase }, { on := 2, ground := Ground.phase }, { on := 3, ground := Ground.phase }, { on := 4, ground := Ground.phase }, { on := 5, ground := Ground.phase }, { on := 6, ground := Ground.phase }, { on := 7, ground := Ground.phase }, { on := 8, ground := Ground.phase }, { on := 9, ground := Ground.phase }, { on := 10, ground := Ground.phase }, { on := 11, ground := Ground.phase }, { on := 12, ground := Ground.phase }, { on := 13, ground := Ground.phase }, { on := 14, ground := Ground.phase }, { on := 15, ground := Ground.phase }, { on := 16, ground := Ground.phase }, { on := 17, ground := Ground.phase }, { on := 18, ground := Ground.phase }, { on := 19, ground := Ground.phase }, { on := 20, ground := Ground.phase }, { on := 21, ground := Ground.phase }, { on := 22, ground := Ground.phase }, { on := 23, ground := Ground.phase }, { on := 24, ground := Ground.phase }, { on := 25, ground := Ground.phase }, { on := 26, ground := Ground.phase }, { on := 27, ground := Ground.phase }, { on := 28, ground := Ground.phase }, { on := 29, ground := Ground.phase }, { on := 30, ground := Ground.phase }, { on := 31, ground := Ground.phase }, { on := 32, ground := Ground.phase }, { on := 33, ground := Ground.phase }, { on := 34, ground := Ground.phase }], guard := none }) (rs := []) rfl (by rfl) (fun K hK => ?_) AllReadyT.nil)
            go_simp
            refine hK.out _ _ ?_
            clear hK K
            try simp only [Act.put, List.setIfInBounds_toArray, List.set_cons_zero, List.set_cons_succ]
            refine wpAnyT_done (by kernel_rfl) ?_ _
            go_wp2_with fail
            go_ret
            exact ⟨rfl, HB.out.trans (hb4.mono hle)⟩
theorem fnProperties.walk (a : Option Addr) (len cap : Nat) (zs : List Int) (w : World) (h : IntsAt .u8 w.heap.size w a len zs) :
    Calls Try.prog 3 #[.slice a len cap] w fun e w' => e = .returned (.bool true) ∧ Below w.heap.size w w' := fnProperties.walk0 a len cap w (code_of h)
end Go.Proofs.Ytodjapljoimkgaa
