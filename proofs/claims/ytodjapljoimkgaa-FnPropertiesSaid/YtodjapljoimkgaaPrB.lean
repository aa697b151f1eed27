/- The code's faults and properties of games (prB.py). -/
import Derived.Test.YtodjapljoimkgaaGmI
import Derived.Test.YtodjapljoimkgaaPrA
import Derived.Test.YtodjapljoimkgaaHeldT
import Derived.Shelf.Abstract
namespace Go.Proofs.Ytodjapljoimkgaa
open Go.RowKit
open Gm (G)
set_option maxRecDepth 100000 in
set_option maxHeartbeats 4000000 in
theorem impl_monotone1 {w : World} {q : Nat} {x y : Value} {g : G} (hv : Gm.vld g = true) (hq : CellsAt w q #[x, y] 26) (h : GmC w x y g) (hf : GmOk g) (a b : Nat) (ha : a < g.v.length) (hb : b < g.v.length) :
    Calls Try.prog 70 #[.int .i64 a, .int .i64 b, .pointer (some ⟨q, 0, none⟩)] w fun e w' => e = .returned (.bool (Pr.okM g a b)) ∧ Below w.heap.size w w' := by
  have hl := Gm.vld_len hv
  have Cell := Lib.hid (fun w' (hb : Below w.heap.size w w') => (show w'.cell? ⟨q, 0, none⟩ = some x ∧ w'.cell? ⟨q, 1, none⟩ = some y ∧ Below w.heap.size w w' from ⟨(two (hq.below hb)).1, (two (hq.below hb)).2, hb⟩))
  have Val := Lib.hid (fun (s : Nat) (hs : s < g.v.length) (W' : World) (hb : Below w.heap.size w W') => (show Calls Try.prog 18 #[.agg #[x, y], .int .i64 s] W' fun e w' => e = .returned (.int .i64 (g.v.getD s 0)) ∧ Below W'.heap.size W' w' from Gm.val_in hs ▸ impl_ValueOf (s : Int) (h.up hb) hf))
  have hga := Pr.good_at hv ha
  have hgb := Pr.good_at hv hb
  have hb0 : Below w.heap.size w w.drew := (Below.refl _ _).drew
  have ba := Gm.vld_at hv ha
  have bb := Gm.vld_at hv hb
  have Va := Lib.hid (Val.out a ha)
  have Vb := Lib.hid (Val.out b hb)
  have ha5 : a < 32 := by omega
  have hb5 : b < 32 := by omega
  obtain ⟨s, hs⟩ : ∃ s, Co.sub (a : Int) (b : Int) 5 = s := ⟨_, rfl⟩
  have Hs := Lib.hid (fun W' => (impl_IsSubset (a : Int) (b : Int) hga hgb s hs W').mono fun _ w' h => (show _ ∧ w' = W' from ⟨h.1, h.2.symm⟩))
  have hok : Pr.okM g a b = (!s || decide (g.v.getD a 0 ≤ g.v.getD b 0)) := by unfold Pr.okM Pr.at'; rw [hs]
  rw [hok]
  generalize g.v.getD a 0 = X at *
  generalize g.v.getD b 0 = Y at *
  clear hq h hf Val hga hgb hv hs hok hl ha hb
  rcases s with _ | _
  · go_enter Try.func70, Try.ntmps70
    go_upto_region 1 with fail
    refine wp_region_T_drew (S := (fun w' => w'.cell? ⟨q, 0, none⟩ = some x ∧ w'.cell? ⟨q, 1, none⟩ = some y ∧ Below w.heap.size w w')) 13 (by kernel_rfl) ?_ (fun hHeld => ?_)
    · exact Cell.out _ hb0
    refine wpAnyT_take (i := 0) (oi := { dst := some 6, op := Op.move (Operand.tmp 0), type := 3, pos := "l10_property.go:9", after := #[], guard := none }) (v := ?_) rfl (by kernel_rfl) (fun _ _ _ h => h) (Or.inl ⟨by rfl, ?_⟩) (by assumption) ?_
    rotate_left 1
    · intro w hSw; (try dsimp only at hSw); go_simp; try (with_reducible rfl)
    try simp only [Act.put, List.setIfInBounds_toArray, List.set_cons_zero, List.set_cons_succ]
    refine wpAnyT_take (i := 1) (oi := { dst := some 7, op := Op.move (Operand.tmp 1), type := 3, pos := "l10_property.go:9", after := #[], guard := none }) (v := ?_) rfl (by kernel_rfl) (fun _ _ _ h => h) (Or.inl ⟨by rfl, ?_⟩) (by assumption) ?_
    rotate_left 1
    · intro w hSw; (try dsimp only at hSw); go_simp; try (with_reducible rfl)
    try simp only [Act.put, List.setIfInBounds_toArray, List.set_cons_zero, List.set_cons_succ]
    refine wpAnyT_ready (rs := [2]) (by kernel_rfl) (by simp) ?_
    refine (AllReadyT.cons (o := { dst := some 8, op := Op.call { callee := Callee.value (Operand.func 23), args := #[Operand.tmp 6, Operand.tmp 7], argTypes := #[3, 3] }, type := 4, pos := "l10_property.go:9", after := #[{ on := 0, ground := Ground.data }, { on := 1, ground := Ground.data }], guard := none }) (rs := []) rfl (fun K hK => ?_) AllReadyT.nil)
    go_simp
    (refine (Hs.out _).mono ?_; rintro e w1 ⟨rfl, rfl⟩)
    refine hK.out _ _ ?_ (fun hHeld => ?_)
    · exact Cell.out _ hb0
    clear hK K
    try simp only [Act.put, List.setIfInBounds_toArray, List.set_cons_zero, List.set_cons_succ]
    refine wpAnyT_take (i := 3) (oi := { dst := some 9, op := Op.unOp UnOp.not 4 (Operand.tmp 8), type := 4, pos := "l10_property.go:9", after := #[{ on := 2, ground := Ground.data }], guard := none }) (v := ?_) rfl (by kernel_rfl) (fun _ _ _ h => h) (Or.inl ⟨by rfl, ?_⟩) (by assumption) ?_
    rotate_left 1
    · intro w hSw; (try dsimp only at hSw); go_simp; try (with_reducible rfl)
    try simp only [Act.put, List.setIfInBounds_toArray, List.set_cons_zero, List.set_cons_succ]
    refine wpAnyT_take (i := 4) (oi := { dst := some 10, op := Op.move (Operand.tmp 9), type := 4, pos := "l10_property.go:9", after := #[{ on := 3, ground := Ground.data }, { on := 2, ground := Ground.chain }], guard := none }) (v := ?_) rfl (by kernel_rfl) (fun _ _ _ h => h) (Or.inl ⟨by rfl, ?_⟩) (by assumption) ?_
    rotate_left 1
    · intro w hSw; (try dsimp only at hSw); go_simp; try (with_reducible rfl)
    try simp only [Act.put, List.setIfInBounds_toArray, List.set_cons_zero, List.set_cons_succ]
    refine wpAnyT_take (i := 5) (oi := { dst := some 11, op := Op.load 26 (Operand.tmp 2), type := 26, pos := "l10_property.go:9", after := #[{ on := 4, ground := Ground.guard }], guard := some (4, false) }) (v := undef) rfl (by kernel_rfl) (fun _ _ _ h => h) (Or.inr ⟨by rfl, rfl⟩) (by assumption) ?_
    try simp only [Act.put, List.setIfInBounds_toArray, List.set_cons_zero, List.set_cons_succ]
    refine wpAnyT_take (i := 6) (oi := { dst := some 12, op := Op.move (Operand.tmp 0), type := 3, pos := "l10_property.go:9", after := #[{ on := 4, ground := Ground.guard }], guard := some (4, false) }) (v := undef) rfl (by kernel_rfl) (fun _ _ _ h => h) (Or.inr ⟨by rfl, rfl⟩) (by assumption) ?_
    try simp only [Act.put, List.setIfInBounds_toArray, List.set_cons_zero, List.set_cons_succ]
    refine wpAnyT_take (i := 7) (oi := { dst := some 13, op := Op.call { callee := Callee.value (Operand.func 18), args := #[Operand.tmp 11, Operand.tmp 12], argTypes := #[26, 3] }, type := 3, pos := "l10_property.go:9", after := #[{ on := 5, ground := Ground.data }, { on := 6, ground := Ground.data }, { on := 4, ground := Ground.chain }, { on := 4, ground := Ground.guard }], guard := some (4, false) }) (v := undef) rfl (by kernel_rfl) (fun _ _ _ h => h) (Or.inr ⟨by rfl, rfl⟩) (by assumption) ?_
    try simp only [Act.put, List.setIfInBounds_toArray, List.set_cons_zero, List.set_cons_succ]
    refine wpAnyT_take (i := 8) (oi := { dst := some 14, op := Op.load 26 (Operand.tmp 2), type := 26, pos := "l10_property.go:9", after := #[{ on := 4, ground := Ground.guard }], guard := some (4, false) }) (v := undef) rfl (by kernel_rfl) (fun _ _ _ h => h) (Or.inr ⟨by rfl, rfl⟩) (by assumption) ?_
    try simp only [Act.put, List.setIfInBounds_toArray, List.set_cons_zero, List.set_cons_succ]
    refine wpAnyT_take (i := 9) (oi := { dst := some 15, op := Op.move (Operand.tmp 1), type := 3, pos := "l10_property.go:9", after := #[{ on := 4, ground := Ground.guard }], guard := some (4, false) }) (v := undef) rfl (by kernel_rfl) (fun _ _ _ h => h) (Or.inr ⟨by rfl, rfl⟩) (by assumption) ?_
    try simp only [Act.put, List.setIfInBounds_toArray, List.set_cons_zero, List.set_cons_succ]
    refine wpAnyT_take (i := 10) (oi := { dst := some 16, op := Op.call { callee := Callee.value (Operand.func 18), args := #[Operand.tmp 14, Operand.tmp 15], argTypes := #[26, 3] }, type := 3, pos := "l10_property.go:9", after := #[{ on := 8, ground := Ground.data }, { on := 9, ground := Ground.data }, { on := 7, ground := Ground.chain }, { on := 4, ground := Ground.guard }], guard := some (4, false) }) (v := undef) rfl (by kernel_rfl) (fun _ _ _ h => h) (Or.inr ⟨by rfl, rfl⟩) (by assumption) ?_
    try simp only [Act.put, List.setIfInBounds_toArray, List.set_cons_zero, List.set_cons_succ]
    refine wpAnyT_take (i := 11) (oi := { dst := some 17, op := Op.binOp BinOp.leq 3 (Operand.tmp 13) (Operand.tmp 16) 3, type := 4, pos := "l10_property.go:9", after := #[{ on := 7, ground := Ground.data }, { on := 10, ground := Ground.data }, { on := 4, ground := Ground.guard }], guard := some (4, false) }) (v := undef) rfl (by kernel_rfl) (fun _ _ _ h => h) (Or.inr ⟨by rfl, rfl⟩) (by assumption) ?_
    try simp only [Act.put, List.setIfInBounds_toArray, List.set_cons_zero, List.set_cons_succ]
    refine wpAnyT_take (i := 12) (oi := { dst := some 18, op := Op.pick (Operand.tmp 10) (Operand.const (Value.bool true)) (Operand.tmp 17), type := 4, pos := "l10_property.go:9", after := #[{ on := 4, ground := Ground.data }, { on := 11, ground := Ground.data }], guard := none }) (v := ?_) rfl (by kernel_rfl) (fun _ _ _ h => h) (Or.inl ⟨by rfl, ?_⟩) (by assumption) ?_
    rotate_left 1
    · intro w hSw; (try dsimp only at hSw); go_simp; try (with_reducible rfl)
    try simp only [Act.put, List.setIfInBounds_toArray, List.set_cons_zero, List.set_cons_succ]
    refine wpAnyT_ready (rs := [13]) (by kernel_rfl) (by simp) ?_
    refine (AllReadyT.last (o := { dst := some 5, op := Op.assign (Operand.tmp 18), type := 4, pos := "l10_property.go:9", after := #[{ on := 12, ground := Ground.data }, { on := 10, ground := Ground.chain }, { on := 0, ground := Ground.phase }, { on := 1, ground := Ground.phase }, { on := 2, ground := Ground.phase }, { on := 3, ground := Ground.phase }, { on := 4, ground := Ground.phase }, { on := 5, ground := Ground.phase }, { on := 6, ground := Ground.phase }, { on := 7, ground := Ground.phase }, { on := 8, ground := Ground.phase }, { on := 9, ground := Ground.phase }, { on := 10, ground := Ground.phase }, { on := 11, ground := Ground.phase }, { on := 12, ground := Ground.phase }], guard := none }) (rs := []) rfl (by rfl) (fun K hK => ?_) AllReadyT.nil)
    go_simp
    refine hK.out _ _ ?_
    clear hK K
    try simp only [Act.put, List.setIfInBounds_toArray, List.set_cons_zero, List.set_cons_succ]
    refine wpAnyT_done (by kernel_rfl) ?_ _
    go_wp2_with fail
    go_ret
    exact ⟨rfl, hb0⟩
  · go_enter Try.func70, Try.ntmps70
    go_upto_region 1 with fail
    refine wp_region_T_drew (S := (fun w' => w'.cell? ⟨q, 0, none⟩ = some x ∧ w'.cell? ⟨q, 1, none⟩ = some y ∧ Below w.heap.size w w')) 13 (by kernel_rfl) ?_ (fun hHeld => ?_)
    · exact Cell.out _ hb0
    refine wpAnyT_take (i := 0) (oi := { dst := some 6, op := Op.move (Operand.tmp 0), type := 3, pos := "l10_property.go:9", after := #[], guard := none }) (v := ?_) rfl (by kernel_rfl) (fun _ _ _ h => h) (Or.inl ⟨by rfl, ?_⟩) (by assumption) ?_
    rotate_left 1
    · intro w hSw; (try dsimp only at hSw); go_simp; try (with_reducible rfl)
    try simp only [Act.put, List.setIfInBounds_toArray, List.set_cons_zero, List.set_cons_succ]
    refine wpAnyT_take (i := 1) (oi := { dst := some 7, op := Op.move (Operand.tmp 1), type := 3, pos := "l10_property.go:9", after := #[], guard := none }) (v := ?_) rfl (by kernel_rfl) (fun _ _ _ h => h) (Or.inl ⟨by rfl, ?_⟩) (by assumption) ?_
    rotate_left 1
    · intro w hSw; (try dsimp only at hSw); go_simp; try (with_reducible rfl)
    try simp only [Act.put, List.setIfInBounds_toArray, List.set_cons_zero, List.set_cons_succ]
    refine wpAnyT_ready (rs := [2]) (by kernel_rfl) (by simp) ?_
    refine (AllReadyT.cons (o := { dst := some 8, op := Op.call { callee := Callee.value (Operand.func 23), args := #[Operand.tmp 6, Operand.tmp 7], argTypes := #[3, 3] }, type := 4, pos := "l10_property.go:9", after := #[{ on := 0, ground := Ground.data }, { on := 1, ground := Ground.data }], guard := none }) (rs := []) rfl (fun K hK => ?_) AllReadyT.nil)
    go_simp
    (refine (Hs.out _).mono ?_; rintro e w1 ⟨rfl, rfl⟩)
    refine hK.out _ _ ?_ (fun hHeld => ?_)
    · exact Cell.out _ hb0
    clear hK K
    try simp only [Act.put, List.setIfInBounds_toArray, List.set_cons_zero, List.set_cons_succ]
    refine wpAnyT_take (i := 3) (oi := { dst := some 9, op := Op.unOp UnOp.not 4 (Operand.tmp 8), type := 4, pos := "l10_property.go:9", after := #[{ on := 2, ground := Ground.data }], guard := none }) (v := ?_) rfl (by kernel_rfl) (fun _ _ _ h => h) (Or.inl ⟨by rfl, ?_⟩) (by assumption) ?_
    rotate_left 1
    · intro w hSw; (try dsimp only at hSw); go_simp; try (with_reducible rfl)
    try simp only [Act.put, List.setIfInBounds_toArray, List.set_cons_zero, List.set_cons_succ]
    refine wpAnyT_take (i := 4) (oi := { dst := some 10, op := Op.move (Operand.tmp 9), type := 4, pos := "l10_property.go:9", after := #[{ on := 3, ground := Ground.data }, { on := 2, ground := Ground.chain }], guard := none }) (v := ?_) rfl (by kernel_rfl) (fun _ _ _ h => h) (Or.inl ⟨by rfl, ?_⟩) (by assumption) ?_
    rotate_left 1
    · intro w hSw; (try dsimp only at hSw); go_simp; try (with_reducible rfl)
    try simp only [Act.put, List.setIfInBounds_toArray, List.set_cons_zero, List.set_cons_succ]
    refine wpAnyT_take (i := 5) (oi := { dst := some 11, op := Op.load 26 (Operand.tmp 2), type := 26, pos := "l10_property.go:9", after := #[{ on := 4, ground := Ground.guard }], guard := some (4, false) }) (v := ?_) rfl (by kernel_rfl) (fun _ _ _ h => h) (Or.inl ⟨by rfl, ?_⟩) (by assumption) ?_
    rotate_left 1
    · intro w hSw; (try dsimp only at hSw); go_simp; try (with_reducible rfl)
    try simp only [Act.put, List.setIfInBounds_toArray, List.set_cons_zero, List.set_cons_succ]
    refine wpAnyT_take (i := 6) (oi := { dst := some 12, op := Op.move (Operand.tmp 0), type := 3, pos := "l10_property.go:9", after := #[{ on := 4, ground := Ground.guard }], guard := some (4, false) }) (v := ?_) rfl (by kernel_rfl) (fun _ _ _ h => h) (Or.inl ⟨by rfl, ?_⟩) (by assumption) ?_
    rotate_left 1
    · intro w hSw; (try dsimp only at hSw); go_simp; try (with_reducible rfl)
    try simp only [Act.put, List.setIfInBounds_toArray, List.set_cons_zero, List.set_cons_succ]
    refine wpAnyT_take (i := 8) (oi := { dst := some 14, op := Op.load 26 (Operand.tmp 2), type := 26, pos := "l10_property.go:9", after := #[{ on := 4, ground := Ground.guard }], guard := some (4, false) }) (v := ?_) rfl (by kernel_rfl) (fun _ _ _ h => h) (Or.inl ⟨by rfl, ?_⟩) (by assumption) ?_
    rotate_left 1
    · intro w hSw; (try dsimp only at hSw); go_simp; try (with_reducible rfl)
    try simp only [Act.put, List.setIfInBounds_toArray, List.set_cons_zero, List.set_cons_succ]
    refine wpAnyT_take (i := 9) (oi := { dst := some 15, op := Op.move (Operand.tmp 1), type := 3, pos := "l10_property.go:9", after := #[{ on := 4, ground := Ground.guard }], guard := some (4, false) }) (v := ?_) rfl (by kernel_rfl) (fun _ _ _ h => h) (Or.inl ⟨by rfl, ?_⟩) (by assumption) ?_
    rotate_left 1
    · intro w hSw; (try dsimp only at hSw); go_simp; try (with_reducible rfl)
    try simp only [Act.put, List.setIfInBounds_toArray, List.set_cons_zero, List.set_cons_succ]
    refine wpAnyT_ready (rs := [7]) (by kernel_rfl) (by simp) ?_
    refine (AllReadyT.cons (o := { dst := some 13, op := Op.call { callee := Callee.value (Operand.func 18), args := #[Operand.tmp 11, Operand.tmp 12], argTypes := #[26, 3] }, type := 3, pos := "l10_property.go:9", after := #[{ on := 5, ground := Ground.data }, { on := 6, ground := Ground.data }, { on := 4, ground := Ground.chain }, { on := 4, ground := Ground.guard }], guard := some (4, false) }) (rs := []) rfl (fun K hK => ?_) AllReadyT.nil)
    go_simp
    (refine (Va.out _ hb0).mono ?_; rintro e w2 ⟨rfl, k⟩; have hb2 := hb0.trans (k.mono hb0.size))
    refine hK.out _ _ ?_ (fun hHeld => ?_)
    · exact Cell.out _ hb2
    clear hK K
    try simp only [Act.put, List.setIfInBounds_toArray, List.set_cons_zero, List.set_cons_succ]
    refine wpAnyT_ready (rs := [10]) (by kernel_rfl) (by simp) ?_
    refine (AllReadyT.cons (o := { dst := some 16, op := Op.call { callee := Callee.value (Operand.func 18), args := #[Operand.tmp 14, Operand.tmp 15], argTypes := #[26, 3] }, type := 3, pos := "l10_property.go:9", after := #[{ on := 8, ground := Ground.data }, { on := 9, ground := Ground.data }, { on := 7, ground := Ground.chain }, { on := 4, ground := Ground.guard }], guard := some (4, false) }) (rs := []) rfl (fun K hK => ?_) AllReadyT.nil)
    go_simp
    (refine (Vb.out _ hb2).mono ?_; rintro e w3 ⟨rfl, k⟩; have hb3 := hb2.trans (k.mono hb2.size))
    refine hK.out _ _ ?_ (fun hHeld => ?_)
    · exact Cell.out _ hb3
    clear hK K
    try simp only [Act.put, List.setIfInBounds_toArray, List.set_cons_zero, List.set_cons_succ]
    refine wpAnyT_take (i := 11) (oi := { dst := some 17, op := Op.binOp BinOp.leq 3 (Operand.tmp 13) (Operand.tmp 16) 3, type := 4, pos := "l10_property.go:9", after := #[{ on := 7, ground := Ground.data }, { on := 10, ground := Ground.data }, { on := 4, ground := Ground.guard }], guard := some (4, false) }) (v := ?_) rfl (by kernel_rfl) (fun _ _ _ h => h) (Or.inl ⟨by rfl, ?_⟩) (by assumption) ?_
    rotate_left 1
    · intro w hSw; (try dsimp only at hSw); go_simp; try (with_reducible rfl)
    try simp only [Act.put, List.setIfInBounds_toArray, List.set_cons_zero, List.set_cons_succ]
    refine wpAnyT_take (i := 12) (oi := { dst := some 18, op := Op.pick (Operand.tmp 10) (Operand.const (Value.bool true)) (Operand.tmp 17), type := 4, pos := "l10_property.go:9", after := #[{ on := 4, ground := Ground.data }, { on := 11, ground := Ground.data }], guard := none }) (v := ?_) rfl (by kernel_rfl) (fun _ _ _ h => h) (Or.inl ⟨by rfl, ?_⟩) (by assumption) ?_
    rotate_left 1
    · intro w hSw; (try dsimp only at hSw); go_simp; try (with_reducible rfl)
    try simp only [Act.put, List.setIfInBounds_toArray, List.set_cons_zero, List.set_cons_succ]
    refine wpAnyT_ready (rs := [13]) (by kernel_rfl) (by simp) ?_
    refine (AllReadyT.last (o := { dst := some 5, op := Op.assign (Operand.tmp 18), type := 4, pos := "l10_property.go:9", after := #[{ on := 12, ground := Ground.data }, { on := 10, ground := Ground.chain }, { on := 0, ground := Ground.phase }, { on := 1, ground := Ground.phase }, { on := 2, ground := Ground.phase }, { on := 3, ground := Ground.phase }, { on := 4, ground := Ground.phase }, { on := 5, ground := Ground.phase }, { on := 6, ground := Ground.phase }, { on := 7, ground := Ground.phase }, { on := 8, ground := Ground.phase }, { on := 9, ground := Ground.phase }, { on := 10, ground := Ground.phase }, { on := 11, ground := Ground.phase }, { on := 12, ground := Ground.phase }], guard := none }) (rs := []) rfl (by rfl) (fun K hK => ?_) AllReadyT.nil)
    go_simp
    refine hK.out _ _ ?_
    clear hK K
    try simp only [Act.put, List.setIfInBounds_toArray, List.set_cons_zero, List.set_cons_succ]
    refine wpAnyT_done (by kernel_rfl) ?_ _
    go_wp2_with fail
    go_ret
    exact ⟨rfl, hb3⟩
theorem impl_monotone (x y : Value) (w : World) : Calls Try.prog 50 #[.agg #[x, y]] w fun e w' => e = .returned (.func (.func 70) #[] #[.pointer (some ⟨w.heap.size, 0, none⟩)]) ∧ w' = w.alloc (.cells #[x, y] 26) := by
  have hmf : ∀ (fn : Fn) (first cap : Array Value) (w : World), (Instr.makeFunc fn first cap).run Try.prog w = .ok (.func fn first cap) w := fun _ _ _ _ => rfl
  go_enter Try.func50, Try.ntmps50
  go_wp2_with fail
  go_ret
  exact ⟨rfl, rfl⟩
set_option maxRecDepth 100000 in
set_option maxHeartbeats 4000000 in
theorem impl_superadditive1 {w : World} {q : Nat} {x y : Value} {g : G} (hv : Gm.vld g = true) (hq : CellsAt w q #[x, y] 26) (h : GmC w x y g) (hf : GmOk g) (a b : Nat) (ha : a < g.v.length) (hb : b < g.v.length) :
    Calls Try.prog 69 #[.int .i64 a, .int .i64 b, .pointer (some ⟨q, 0, none⟩)] w fun e w' => e = .returned (.bool (Pr.okS g a b)) ∧ Below w.heap.size w w' := by
  have hl := Gm.vld_len hv
  have Cell := Lib.hid (fun w' (hb : Below w.heap.size w w') => (show w'.cell? ⟨q, 0, none⟩ = some x ∧ w'.cell? ⟨q, 1, none⟩ = some y ∧ Below w.heap.size w w' from ⟨(two (hq.below hb)).1, (two (hq.below hb)).2, hb⟩))
  have Val := Lib.hid (fun (s : Nat) (hs : s < g.v.length) (W' : World) (hb : Below w.heap.size w W') => (show Calls Try.prog 18 #[.agg #[x, y], .int .i64 s] W' fun e w' => e = .returned (.int .i64 (g.v.getD s 0)) ∧ Below W'.heap.size W' w' from Gm.val_in hs ▸ impl_ValueOf (s : Int) (h.up hb) hf))
  have hga := Pr.good_at hv ha
  have hgb := Pr.good_at hv hb
  have hb0 : Below w.heap.size w w.drew := (Below.refl _ _).drew
  have ba := Gm.vld_at hv ha
  have bb := Gm.vld_at hv hb
  have Va := Lib.hid (Val.out a ha)
  have Vb := Lib.hid (Val.out b hb)
  have ha5 : a < 32 := by omega
  have hb5 : b < 32 := by omega
  obtain ⟨u, hu, hul⟩ := Pr.uni_at hv ha hb
  obtain ⟨v, hv2, hvl⟩ := Pr.ovl_at hv ha hb
  have bu := Gm.vld_at hv hul
  have bv := Gm.vld_at hv hvl
  have Vu := Lib.hid (Val.out u hul)
  have Vv := Lib.hid (Val.out v hvl)
  have Hu := Lib.hid (fun W' => (impl_Union (a : Int) (b : Int) hga hgb W').mono fun _ w' h => (show _ ∧ w' = W' from ⟨h.1, h.2.symm⟩))
  have Ho := Lib.hid (fun W' => (impl_Overlap (a : Int) (b : Int) hga hgb W').mono fun _ w' h => (show _ ∧ w' = W' from ⟨h.1, h.2.symm⟩))
  rw [hu] at Hu
  rw [hv2] at Ho
  have hok : Pr.okS g a b = (!decide ((v : Int) = 0) || decide (g.v.getD a 0 + g.v.getD b 0 ≤ g.v.getD u 0)) := by unfold Pr.okS Pr.at'; rw [hu, hv2, Int.toNat_natCast]
  rw [hok]
  generalize g.v.getD a 0 = X at *
  generalize g.v.getD b 0 = Y at *
  generalize g.v.getD u 0 = Z at *
  have hw1 : IntKind.i64.wrap (X + Y) = X + Y := IntWalk.i64_in _ (by omega)
  have hul5 : u < 32 := by omega
  have hvl5 : v < 32 := by omega
  clear hq h hf Val hga hgb hv hok hl ha hb hu hv2 Vv bv hul hvl
  by_cases h0 : v = 0
  · subst h0
    rw [show decide (((0 : Nat) : Int) = 0) = true from by decide, Bool.not_true, Bool.false_or]
    go_enter Try.func69, Try.ntmps69
    go_upto_region 1 with fail
    refine wp_region_T_drew (S := (fun w' => w'.cell? ⟨q, 0, none⟩ = some x ∧ w'.cell? ⟨q, 1, none⟩ = some y ∧ Below w.heap.size w w')) 19 (by kernel_rfl) ?_ (fun hHeld => ?_)
    · exact Cell.out _ hb0
    refine wpAnyT_take (i := 0) (oi := { dst := some 6, op := Op.move (Operand.tmp 0), type := 3, pos := "l10_property.go:15", after := #[], guard := none }) (v := ?_) rfl (by kernel_rfl) (fun _ _ _ h => h) (Or.inl ⟨by rfl, ?_⟩) (by assumption) ?_
    rotate_left 1
    · intro w hSw; (try dsimp only at hSw); go_simp; try (with_reducible rfl)
    try simp only [Act.put, List.setIfInBounds_toArray, List.set_cons_zero, List.set_cons_succ]
    refine wpAnyT_take (i := 1) (oi := { dst := some 7, op := Op.move (Operand.tmp 1), type := 3, pos := "l10_property.go:15", after := #[], guard := none }) (v := ?_) rfl (by kernel_rfl) (fun _ _ _ h => h) (Or.inl ⟨by rfl, ?_⟩) (by assumption) ?_
    rotate_left 1
    · intro w hSw; (try dsimp only at hSw); go_simp; try (with_reducible rfl)
    try simp only [Act.put, List.setIfInBounds_toArray, List.set_cons_zero, List.set_cons_succ]
    refine wpAnyT_ready (rs := [2]) (by kernel_rfl) (by simp) ?_
    refine (AllReadyT.cons (o := { dst := some 8, op := Op.call { callee := Callee.value (Operand.func 20), args := #[Operand.tmp 6, Operand.tmp 7], argTypes := #[3, 3] }, type := 3, pos := "l10_property.go:15", after := #[{ on := 0, ground := Ground.data }, { on := 1, ground := Ground.data }], guard := none }) (rs := []) rfl (fun K hK => ?_) AllReadyT.nil)
    go_simp
    (refine (Ho.out _).mono ?_; rintro e w1 ⟨rfl, rfl⟩)
    refine hK.out _ _ ?_ (fun hHeld => ?_)
    · exact Cell.out _ hb0
    clear hK K
    try simp only [Act.put, List.setIfInBounds_toArray, List.set_cons_zero, List.set_cons_succ]
    refine wpAnyT_take (i := 3) (oi := { dst := some 9, op := Op.binOp BinOp.neq 3 (Operand.tmp 8) (Operand.const (Value.int IntKind.i64 0)) 3, type := 4, pos := "l10_property.go:15", after := #[{ on := 2, ground := Ground.data }], guard := none }) (v := ?_) rfl (by kernel_rfl) (fun _ _ _ h => h) (Or.inl ⟨by rfl, ?_⟩) (by assumption) ?_
    rotate_left 1
    · intro w hSw; (try dsimp only at hSw); go_simp; try (with_reducible rfl)
    try simp only [Act.put, List.setIfInBounds_toArray, List.set_cons_zero, List.set_cons_succ]
    refine wpAnyT_take (i := 4) (oi := { dst := some 10, op := Op.move (Operand.tmp 9), type := 4, pos := "l10_property.go:15", after := #[{ on := 3, ground := Ground.data }, { on := 2, ground := Ground.chain }], guard := none }) (v := ?_) rfl (by kernel_rfl) (fun _ _ _ h => h) (Or.inl ⟨by rfl, ?_⟩) (by assumption) ?_
    rotate_left 1
    · intro w hSw; (try dsimp only at hSw); go_simp; try (with_reducible rfl)
    try simp only [Act.put, List.setIfInBounds_toArray, List.set_cons_zero, List.set_cons_succ]
    refine wpAnyT_take (i := 5) (oi := { dst := some 11, op := Op.load 26 (Operand.tmp 2), type := 26, pos := "l10_property.go:15", after := #[{ on := 4, ground := Ground.guard }], guard := some (4, false) }) (v := ?_) rfl (by kernel_rfl) (fun _ _ _ h => h) (Or.inl ⟨by rfl, ?_⟩) (by assumption) ?_
    rotate_left 1
    · intro w hSw; (try dsimp only at hSw); go_simp; try (with_reducible rfl)
    try simp only [Act.put, List.setIfInBounds_toArray, List.set_cons_zero, List.set_cons_succ]
    refine wpAnyT_take (i := 6) (oi := { dst := some 12, op := Op.move (Operand.tmp 0), type := 3, pos := "l10_property.go:15", after := #[{ on := 4, ground := Ground.guard }], guard := some (4, false) }) (v := ?_) rfl (by kernel_rfl) (fun _ _ _ h => h) (Or.inl ⟨by rfl, ?_⟩) (by assumption) ?_
    rotate_left 1
    · intro w hSw; (try dsimp only at hSw); go_simp; try (with_reducible rfl)
    try simp only [Act.put, List.setIfInBounds_toArray, List.set_cons_zero, List.set_cons_succ]
    refine wpAnyT_take (i := 8) (oi := { dst := some 14, op := Op.load 26 (Operand.tmp 2), type := 26, pos := "l10_property.go:15", after := #[{ on := 4, ground := Ground.guard }], guard := some (4, false) }) (v := ?_) rfl (by kernel_rfl) (fun _ _ _ h => h) (Or.inl ⟨by rfl, ?_⟩) (by assumption) ?_
    rotate_left 1
    · intro w hSw; (try dsimp only at hSw); go_simp; try (with_reducible rfl)
    try simp only [Act.put, List.setIfInBounds_toArray, List.set_cons_zero, List.set_cons_succ]
    refine wpAnyT_take (i := 9) (oi := { dst := some 15, op := Op.move (Operand.tmp 1), type := 3, pos := "l10_property.go:15", after := #[{ on := 4, ground := Ground.guard }], guard := some (4, false) }) (v := ?_) rfl (by kernel_rfl) (fun _ _ _ h => h) (Or.inl ⟨by rfl, ?_⟩) (by assumption) ?_
    rotate_left 1
    · intro w hSw; (try dsimp only at hSw); go_simp; try (with_reducible rfl)
    try simp only [Act.put, List.setIfInBounds_toArray, List.set_cons_zero, List.set_cons_succ]
    refine wpAnyT_take (i := 12) (oi := { dst := some 18, op := Op.load 26 (Operand.tmp 2), type := 26, pos := "l10_property.go:15", after := #[{ on := 4, ground := Ground.guard }], guard := some (4, false) }) (v := ?_) rfl (by kernel_rfl) (fun _ _ _ h => h) (Or.inl ⟨by rfl, ?_⟩) (by assumption) ?_
    rotate_left 1
    · intro w hSw; (try dsimp only at hSw); go_simp; try (with_reducible rfl)
    try simp only [Act.put, List.setIfInBounds_toArray, List.set_cons_zero, List.set_cons_succ]
    refine wpAnyT_take (i := 13) (oi := { dst := some 19, op := Op.move (Operand.tmp 0), type := 3, pos := "l10_property.go:15", after := #[{ on := 4, ground := Ground.guard }], guard := some (4, false) }) (v := ?_) rfl (by kernel_rfl) (fun _ _ _ h => h) (Or.inl ⟨by rfl, ?_⟩) (by assumption) ?_
    rotate_left 1
    · intro w hSw; (try dsimp only at hSw); go_simp; try (with_reducible rfl)
    try simp only [Act.put, List.setIfInBounds_toArray, List.set_cons_zero, List.set_cons_succ]
    refine wpAnyT_take (i := 14) (oi := { dst := some 20, op := Op.move (Operand.tmp 1), type := 3, pos := "l10_property.go:15", after := #[{ on := 4, ground := Ground.guard }], guard := some (4, false) }) (v := ?_) rfl (by kernel_rfl) (fun _ _ _ h => h) (Or.inl ⟨by rfl, ?_⟩) (by assumption) ?_
    rotate_left 1
    · intro w hSw; (try dsimp only at hSw); go_simp; try (with_reducible rfl)
    try simp only [Act.put, List.setIfInBounds_toArray, List.set_cons_zero, List.set_cons_succ]
    refine wpAnyT_ready (rs := [7]) (by kernel_rfl) (by simp) ?_
    refine (AllReadyT.cons (o := { dst := some 13, op := Op.call { callee := Callee.value (Operand.func 18), args := #[Operand.tmp 11, Operand.tmp 12], argTypes := #[26, 3] }, type := 3, pos := "l10_property.go:15", after := #[{ on := 5, ground := Ground.data }, { on := 6, ground := Ground.data }, { on := 4, ground := Ground.chain }, { on := 4, ground := Ground.guard }], guard := some (4, false) }) (rs := []) rfl (fun K hK => ?_) AllReadyT.nil)
    go_simp
    (refine (Va.out _ hb0).mono ?_; rintro e w2 ⟨rfl, k⟩; have hb2 := hb0.trans (k.mono hb0.size))
    refine hK.out _ _ ?_ (fun hHeld => ?_)
    · exact Cell.out _ hb2
    clear hK K
    try simp only [Act.put, List.setIfInBounds_toArray, List.set_cons_zero, List.set_cons_succ]
    refine wpAnyT_ready (rs := [10]) (by kernel_rfl) (by simp) ?_
    refine (AllReadyT.cons (o := { dst := some 16, op := Op.call { callee := Callee.value (Operand.func 18), args := #[Operand.tmp 14, Operand.tmp 15], argTypes := #[26, 3] }, type := 3, pos := "l10_property.go:15", after := #[{ on := 8, ground := Ground.data }, { on := 9, ground := Ground.data }, { on := 7, ground := Ground.chain }, { on := 4, ground := Ground.guard }], guard := some (4, false) }) (rs := []) rfl (fun K hK => ?_) AllReadyT.nil)
    go_simp
    (refine (Vb.out _ hb2).mono ?_; rintro e w3 ⟨rfl, k⟩; have hb3 := hb2.trans (k.mono hb2.size))
    refine hK.out _ _ ?_ (fun hHeld => ?_)
    · exact Cell.out _ hb3
    clear hK K
    try simp only [Act.put, List.setIfInBounds_toArray, List.set_cons_zero, List.set_cons_succ]
    refine wpAnyT_take (i := 11) (oi := { dst := some 17, op := Op.binOp BinOp.add 3 (Operand.tmp 13) (Operand.tmp 16) 3, type := 3, pos := "l10_property.go:15", after := #[{ on := 7, ground := Ground.data }, { on := 10, ground := Ground.data }, { on := 4, ground := Ground.guard }], guard := some (4, false) }) (v := ?_) rfl (by kernel_rfl) (fun _ _ _ h => h) (Or.inl ⟨by rfl, ?_⟩) (by assumption) ?_
    rotate_left 1
    · intro w hSw; (try dsimp only at hSw); go_simp; try (with_reducible rfl)
    try simp only [Act.put, List.setIfInBounds_toArray, List.set_cons_zero, List.set_cons_succ]
    refine wpAnyT_ready (rs := [15]) (by kernel_rfl) (by simp) ?_
    refine (AllReadyT.cons (o := { dst := some 21, op := Op.call { callee := Callee.value (Operand.func 19), args := #[Operand.tmp 19, Operand.tmp 20], argTypes := #[3, 3] }, type := 3, pos := "l10_property.go:15", after := #[{ on := 13, ground := Ground.data }, { on := 14, ground := Ground.data }, { on := 10, ground := Ground.chain }, { on := 4, ground := Ground.guard }], guard := some (4, false) }) (rs := []) rfl (fun K hK => ?_) AllReadyT.nil)
    go_simp
    (refine (Hu.out _).mono ?_; rintro e w4 ⟨rfl, rfl⟩)
    refine hK.out _ _ ?_ (fun hHeld => ?_)
    · exact Cell.out _ hb3
    clear hK K
    try simp only [Act.put, List.setIfInBounds_toArray, List.set_cons_zero, List.set_cons_succ]
    refine wpAnyT_ready (rs := [16]) (by kernel_rfl) (by simp) ?_
    refine (AllReadyT.cons (o := { dst := some 22, op := Op.call { callee := Callee.value (Operand.func 18), args := #[Operand.tmp 18, Operand.tmp 21], argTypes := #[26, 3] }, type := 3, pos := "l10_property.go:15", after := #[{ on := 12, ground := Ground.data }, { on := 15, ground := Ground.data }, { on := 15, ground := Ground.chain }, { on := 4, ground := Ground.guard }], guard := some (4, false) }) (rs := []) rfl (fun K hK => ?_) AllReadyT.nil)
    go_simp
    (refine (Vu.out _ hb3).mono ?_; rintro e w5 ⟨rfl, k⟩; have hb5 := hb3.trans (k.mono hb3.size))
    refine hK.out _ _ ?_ (fun hHeld => ?_)
    · exact Cell.out _ hb5
    clear hK K
    try simp only [Act.put, List.setIfInBounds_toArray, List.set_cons_zero, List.set_cons_succ]
    refine wpAnyT_take (i := 17) (oi := { dst := some 23, op := Op.binOp BinOp.leq 3 (Operand.tmp 17) (Operand.tmp 22) 3, type := 4, pos := "l10_property.go:15", after := #[{ on := 11, ground := Ground.data }, { on := 16, ground := Ground.data }, { on := 4, ground := Ground.guard }], guard := some (4, false) }) (v := ?_) rfl (by kernel_rfl) (fun _ _ _ h => h) (Or.inl ⟨by rfl, ?_⟩) (by assumption) ?_
    rotate_left 1
    · intro w hSw; (try dsimp only at hSw); go_simp; try (with_reducible rfl)
    try simp only [Act.put, List.setIfInBounds_toArray, List.set_cons_zero, List.set_cons_succ]
    refine wpAnyT_take (i := 18) (oi := { dst := some 24, op := Op.pick (Operand.tmp 10) (Operand.const (Value.bool true)) (Operand.tmp 23), type := 4, pos := "l10_property.go:15", after := #[{ on := 4, ground := Ground.data }, { on := 17, ground := Ground.data }], guard := none }) (v := ?_) rfl (by kernel_rfl) (fun _ _ _ h => h) (Or.inl ⟨by rfl, ?_⟩) (by assumption) ?_
    rotate_left 1
    · intro w hSw; (try dsimp only at hSw); go_simp; try (with_reducible rfl)
    try simp only [Act.put, List.setIfInBounds_toArray, List.set_cons_zero, List.set_cons_succ]
    refine wpAnyT_ready (rs := [19]) (by kernel_rfl) (by simp) ?_
    refine (AllReadyT.last (o := { dst := some 5, op := Op.assign (Operand.tmp 24), type := 4, pos := "l10_property.go:15", after := #[{ on := 18, ground := Ground.data }, { on := 16, ground := Ground.chain }, { on := 0, ground := Ground.phase }, { on := 1, ground := Ground.phase }, { on := 2, ground := Ground.phase }, { on := 3, ground := Ground.phase }, { on := 4, ground := Ground.phase }, { on := 5, ground := Ground.phase }, { on := 6, ground := Ground.phase }, { on := 7, ground := Ground.phase }, { on := 8, ground := Ground.phase }, { on := 9, ground := Ground.phase }, { on := 10, ground := Ground.phase }, { on := 11, ground := Ground.phase }, { on := 12, ground := Ground.phase }, { on := 13, ground := Ground.phase }, { on := 14, ground := Ground.phase }, { on := 15, ground := Ground.phase }, { on := 16, ground := Ground.phase }, { on := 17, ground := Ground.phase }, { on := 18, ground := Ground.phase }], guard := none }) (rs := []) rfl (by rfl) (fun K hK => ?_) AllReadyT.nil)
    go_simp
    refine hK.out _ _ ?_
    clear hK K
    try simp only [Act.put, List.setIfInBounds_toArray, List.set_cons_zero, List.set_cons_succ]
    refine wpAnyT_done (by kernel_rfl) ?_ _
    go_wp2_with fail
    go_ret
    exact ⟨rfl, hb5⟩
  · have hne : ((v : Int) != 0) = true := by rw [bne_iff_ne]; omega
    have hnd : decide ((v : Int) = 0) = false := decide_eq_false (by omega)
    rw [hnd]
    have H0 := Lib.hid h0
    clear h0 hnd
    go_enter Try.func69, Try.ntmps69
    go_upto_region 1 with fail
    refine wp_region_T_drew (S := (fun w' => w'.cell? ⟨q, 0, none⟩ = some x ∧ w'.cell? ⟨q, 1, none⟩ = some y ∧ Below w.heap.size w w')) 19 (by kernel_rfl) ?_ (fun hHeld => ?_)
    · exact Cell.out _ hb0
    refine wpAnyT_take (i := 0) (oi := { dst := some 6, op := Op.move (Operand.tmp 0), type := 3, pos := "l10_property.go:15", after := #[], guard := none }) (v := ?_) rfl (by kernel_rfl) (fun _ _ _ h => h) (Or.inl ⟨by rfl, ?_⟩) (by assumption) ?_
    rotate_left 1
    · intro w hSw; (try dsimp only at hSw); go_simp; try (with_reducible rfl)
    try simp only [Act.put, List.setIfInBounds_toArray, List.set_cons_zero, List.set_cons_succ]
    refine wpAnyT_take (i := 1) (oi := { dst := some 7, op := Op.move (Operand.tmp 1), type := 3, pos := "l10_property.go:15", after := #[], guard := none }) (v := ?_) rfl (by kernel_rfl) (fun _ _ _ h => h) (Or.inl ⟨by rfl, ?_⟩) (by assumption) ?_
    rotate_left 1
    · intro w hSw; (try dsimp only at hSw); go_simp; try (with_reducible rfl)
    try simp only [Act.put, List.setIfInBounds_toArray, List.set_cons_zero, List.set_cons_succ]
    refine wpAnyT_ready (rs := [2]) (by kernel_rfl) (by simp) ?_
    refine (AllReadyT.cons (o := { dst := some 8, op := Op.call { callee := Callee.value (Operand.func 20), args := #[Operand.tmp 6, Operand.tmp 7], argTypes := #[3, 3] }, type := 3, pos := "l10_property.go:15", after := #[{ on := 0, ground := Ground.data }, { on := 1, ground := Ground.data }], guard := none }) (rs := []) rfl (fun K hK => ?_) AllReadyT.nil)
    go_simp
    (refine (Ho.out _).mono ?_; rintro e w1 ⟨rfl, rfl⟩)
    refine hK.out _ _ ?_ (fun hHeld => ?_)
    · exact Cell.out _ hb0
    clear hK K
    try simp only [Act.put, List.setIfInBounds_toArray, List.set_cons_zero, List.set_cons_succ]
    refine wpAnyT_take (i := 3) (oi := { dst := some 9, op := Op.binOp BinOp.neq 3 (Operand.tmp 8) (Operand.const (Value.int IntKind.i64 0)) 3, type := 4, pos := "l10_property.go:15", after := #[{ on := 2, ground := Ground.data }], guard := none }) (v := ?_) rfl (by kernel_rfl) (fun _ _ _ h => h) (Or.inl ⟨by rfl, ?_⟩) (by assumption) ?_
    rotate_left 1
    · intro w hSw; (try dsimp only at hSw); go_simp; try (with_reducible rfl)
    try simp only [Act.put, List.setIfInBounds_toArray, List.set_cons_zero, List.set_cons_succ]
    refine wpAnyT_take (i := 4) (oi := { dst := some 10, op := Op.move (Operand.tmp 9), type := 4, pos := "l10_property.go:15", after := #[{ on := 3, ground := Ground.data }, { on := 2, ground := Ground.chain }], guard := none }) (v := ?_) rfl (by kernel_rfl) (fun _ _ _ h => h) (Or.inl ⟨by rfl, ?_⟩) (by assumption) ?_
    rotate_left 1
    · intro w hSw; (try dsimp only at hSw); go_simp; try (with_reducible rfl)
    try simp only [Act.put, List.setIfInBounds_toArray, List.set_cons_zero, List.set_cons_succ]
    refine wpAnyT_take (i := 5) (oi := { dst := some 11, op := Op.load 26 (Operand.tmp 2), type := 26, pos := "l10_property.go:15", after := #[{ on := 4, ground := Ground.guard }], guard := some (4, false) }) (v := undef) rfl (by kernel_rfl) (fun _ _ _ h => h) (Or.inr ⟨by rfl, rfl⟩) (by assumption) ?_
    try simp only [Act.put, List.setIfInBounds_toArray, List.set_cons_zero, List.set_cons_succ]
    refine wpAnyT_take (i := 6) (oi := { dst := some 12, op := Op.move (Operand.tmp 0), type := 3, pos := "l10_property.go:15", after := #[{ on := 4, ground := Ground.guard }], guard := some (4, false) }) (v := undef) rfl (by kernel_rfl) (fun _ _ _ h => h) (Or.inr ⟨by rfl, rfl⟩) (by assumption) ?_
    try simp only [Act.put, List.setIfInBounds_toArray, List.set_cons_zero, List.set_cons_succ]
    refine wpAnyT_take (i := 7) (oi := { dst := some 13, op := Op.call { callee := Callee.value (Operand.func 18), args := #[Operand.tmp 11, Operand.tmp 12], argTypes := #[26, 3] }, type := 3, pos := "l10_property.go:15", after := #[{ on := 5, ground := Ground.data }, { on := 6, ground := Ground.data }, { on := 4, ground := Ground.chain }, { on := 4, ground := Ground.guard }], guard := some (4, false) }) (v := undef) rfl (by kernel_rfl) (fun _ _ _ h => h) (Or.inr ⟨by rfl, rfl⟩) (by assumption) ?_
    try simp only [Act.put, List.setIfInBounds_toArray, List.set_cons_zero, List.set_cons_succ]
    refine wpAnyT_take (i := 8) (oi := { dst := some 14, op := Op.load 26 (Operand.tmp 2), type := 26, pos := "l10_property.go:15", after := #[{ on := 4, ground := Ground.guard }], guard := some (4, false) }) (v := undef) rfl (by kernel_rfl) (fun _ _ _ h => h) (Or.inr ⟨by rfl, rfl⟩) (by assumption) ?_
    try simp only [Act.put, List.setIfInBounds_toArray, List.set_cons_zero, List.set_cons_succ]
    refine wpAnyT_take (i := 9) (oi := { dst := some 15, op := Op.move (Operand.tmp 1), type := 3, pos := "l10_property.go:15", after := #[{ on := 4, ground := Ground.guard }], guard := some (4, false) }) (v := undef) rfl (by kernel_rfl) (fun _ _ _ h => h) (Or.inr ⟨by rfl, rfl⟩) (by assumption) ?_
    try simp only [Act.put, List.setIfInBounds_toArray, List.set_cons_zero, List.set_cons_succ]
    refine wpAnyT_take (i := 10) (oi := { dst := some 16, op := Op.call { callee := Callee.value (Operand.func 18), args := #[Operand.tmp 14, Operand.tmp 15], argTypes := #[26, 3] }, type := 3, pos := "l10_property.go:15", after := #[{ on := 8, ground := Ground.data }, { on := 9, ground := Ground.data }, { on := 7, ground := Ground.chain }, { on := 4, ground := Ground.guard }], guard := some (4, false) }) (v := undef) rfl (by kernel_rfl) (fun _ _ _ h => h) (Or.inr ⟨by rfl, rfl⟩) (by assumption) ?_
    try simp only [Act.put, List.setIfInBounds_toArray, List.set_cons_zero, List.set_cons_succ]
    refine wpAnyT_take (i := 11) (oi := { dst := some 17, op := Op.binOp BinOp.add 3 (Operand.tmp 13) (Operand.tmp 16) 3, type := 3, pos := "l10_property.go:15", after := #[{ on := 7, ground := Ground.data }, { on := 10, ground := Ground.data }, { on := 4, ground := Ground.guard }], guard := some (4, false) }) (v := undef) rfl (by kernel_rfl) (fun _ _ _ h => h) (Or.inr ⟨by rfl, rfl⟩) (by assumption) ?_
    try simp only [Act.put, List.setIfInBounds_toArray, List.set_cons_zero, List.set_cons_succ]
    refine wpAnyT_take (i := 12) (oi := { dst := some 18, op := Op.load 26 (Operand.tmp 2), type := 26, pos := "l10_property.go:15", after := #[{ on := 4, ground := Ground.guard }], guard := some (4, false) }) (v := undef) rfl (by kernel_rfl) (fun _ _ _ h => h) (Or.inr ⟨by rfl, rfl⟩) (by assumption) ?_
    try simp only [Act.put, List.setIfInBounds_toArray, List.set_cons_zero, List.set_cons_succ]
    refine wpAnyT_take (i := 13) (oi := { dst := some 19, op := Op.move (Operand.tmp 0), type := 3, pos := "l10_property.go:15", after := #[{ on := 4, ground := Ground.guard }], guard := some (4, false) }) (v := undef) rfl (by kernel_rfl) (fun _ _ _ h => h) (Or.inr ⟨by rfl, rfl⟩) (by assumption) ?_
    try simp only [Act.put, List.setIfInBounds_toArray, List.set_cons_zero, List.set_cons_succ]
    refine wpAnyT_take (i := 14) (oi := { dst := some 20, op := Op.move (Operand.tmp 1), type := 3, pos := "l10_property.go:15", after := #[{ on := 4, ground := Ground.guard }], guard := some (4, false) }) (v := undef) rfl (by kernel_rfl) (fun _ _ _ h => h) (Or.inr ⟨by rfl, rfl⟩) (by assumption) ?_
    try simp only [Act.put, List.setIfInBounds_toArray, List.set_cons_zero, List.set_cons_succ]
    refine wpAnyT_take (i := 15) (oi := { dst := some 21, op := Op.call { callee := Callee.value (Operand.func 19), args := #[Operand.tmp 19, Operand.tmp 20], argTypes := #[3, 3] }, type := 3, pos := "l10_property.go:15", after := #[{ on := 13, ground := Ground.data }, { on := 14, ground := Ground.data }, { on := 10, ground := Ground.chain }, { on := 4, ground := Ground.guard }], guard := some (4, false) }) (v := undef) rfl (by kernel_rfl) (fun _ _ _ h => h) (Or.inr ⟨by rfl, rfl⟩) (by assumption) ?_
    try simp only [Act.put, List.setIfInBounds_toArray, List.set_cons_zero, List.set_cons_succ]
    refine wpAnyT_take (i := 16) (oi := { dst := some 22, op := Op.call { callee := Callee.value (Operand.func 18), args := #[Operand.tmp 18, Operand.tmp 21], argTypes := #[26, 3] }, type := 3, pos := "l10_property.go:15", after := #[{ on := 12, ground := Ground.data }, { on := 15, ground := Ground.data }, { on := 15, ground := Ground.chain }, { on := 4, ground := Ground.guard }], guard := some (4, false) }) (v := undef) rfl (by kernel_rfl) (fun _ _ _ h => h) (Or.inr ⟨by rfl, rfl⟩) (by assumption) ?_
    try simp only [Act.put, List.setIfInBounds_toArray, List.set_cons_zero, List.set_cons_succ]
    refine wpAnyT_take (i := 17) (oi := { dst := some 23, op := Op.binOp BinOp.leq 3 (Operand.tmp 17) (Operand.tmp 22) 3, type := 4, pos := "l10_property.go:15", after := #[{ on := 11, ground := Ground.data }, { on := 16, ground := Ground.data }, { on := 4, ground := Ground.guard }], guard := some (4, false) }) (v := undef) rfl (by kernel_rfl) (fun _ _ _ h => h) (Or.inr ⟨by rfl, rfl⟩) (by assumption) ?_
    try simp only [Act.put, List.setIfInBounds_toArray, List.set_cons_zero, List.set_cons_succ]
    refine wpAnyT_take (i := 18) (oi := { dst := some 24, op := Op.pick (Operand.tmp 10) (Operand.const (Value.bool true)) (Operand.tmp 23), type := 4, pos := "l10_property.go:15", after := #[{ on := 4, ground := Ground.data }, { on := 17, ground := Ground.data }], guard := none }) (v := ?_) rfl (by kernel_rfl) (fun _ _ _ h => h) (Or.inl ⟨by rfl, ?_⟩) (by assumption) ?_
    rotate_left 1
    · intro w hSw; (try dsimp only at hSw); go_simp; try (with_reducible rfl)
    try simp only [Act.put, List.setIfInBounds_toArray, List.set_cons_zero, List.set_cons_succ]
    refine wpAnyT_ready (rs := [19]) (by kernel_rfl) (by simp) ?_
    refine (AllReadyT.last (o := { dst := some 5, op := Op.assign (Operand.tmp 24), type := 4, pos := "l10_property.go:15", after := #[{ on := 18, ground := Ground.data }, { on := 16, ground := Ground.chain }, { on := 0, ground := Ground.phase }, { on := 1, ground := Ground.phase }, { on := 2, ground := Ground.phase }, { on := 3, ground := Ground.phase }, { on := 4, ground := Ground.phase }, { on := 5, ground := Ground.phase }, { on := 6, ground := Ground.phase }, { on := 7, ground := Ground.phase }, { on := 8, ground := Ground.phase }, { on := 9, ground := Ground.phase }, { on := 10, ground := Ground.phase }, { on := 11, ground := Ground.phase }, { on := 12, ground := Ground.phase }, { on := 13, ground := Ground.phase }, { on := 14, ground := Ground.phase }, { on := 15, ground := Ground.phase }, { on := 16, ground := Ground.phase }, { on := 17, ground := Ground.phase }, { on := 18, ground := Ground.phase }], guard := none }) (rs := []) rfl (by rfl) (fun K hK => ?_) AllReadyT.nil)
    go_simp
    refine hK.out _ _ ?_
    clear hK K
    try simp only [Act.put, List.setIfInBounds_toArray, List.set_cons_zero, List.set_cons_succ]
    refine wpAnyT_done (by kernel_rfl) ?_ _
    go_wp2_with fail
    go_ret
    exact ⟨rfl, hb0⟩
theorem impl_superadditive (x y : Value) (w : World) : Calls Try.prog 48 #[.agg #[x, y]] w fun e w' => e = .returned (.func (.func 69) #[] #[.pointer (some ⟨w.heap.size, 0, none⟩)]) ∧ w' = w.alloc (.cells #[x, y] 26) := by
  have hmf : ∀ (fn : Fn) (first cap : Array Value) (w : World), (Instr.makeFunc fn first cap).run Try.prog w = .ok (.func fn first cap) w := fun _ _ _ _ => rfl
  go_enter Try.func48, Try.ntmps48
  go_wp2_with fail
  go_ret
  exact ⟨rfl, rfl⟩
set_option maxRecDepth 100000 in
set_option maxHeartbeats 4000000 in
theorem impl_convex1 {w : World} {q : Nat} {x y : Value} {g : G} (hv : Gm.vld g = true) (hq : CellsAt w q #[x, y] 26) (h : GmC w x y g) (hf : GmOk g) (a b : Nat) (ha : a < g.v.length) (hb : b < g.v.length) :
    Calls Try.prog 65 #[.int .i64 a, .int .i64 b, .pointer (some ⟨q, 0, none⟩)] w fun e w' => e = .returned (.bool (Pr.okC g a b)) ∧ Below w.heap.size w w' := by
  have hl := Gm.vld_len hv
  have Cell := Lib.hid (fun w' (hb : Below w.heap.size w w') => (show w'.cell? ⟨q, 0, none⟩ = some x ∧ w'.cell? ⟨q, 1, none⟩ = some y ∧ Below w.heap.size w w' from ⟨(two (hq.below hb)).1, (two (hq.below hb)).2, hb⟩))
  have Val := Lib.hid (fun (s : Nat) (hs : s < g.v.length) (W' : World) (hb : Below w.heap.size w W') => (show Calls Try.prog 18 #[.agg #[x, y], .int .i64 s] W' fun e w' => e = .returned (.int .i64 (g.v.getD s 0)) ∧ Below W'.heap.size W' w' from Gm.val_in hs ▸ impl_ValueOf (s : Int) (h.up hb) hf))
  have hga := Pr.good_at hv ha
  have hgb := Pr.good_at hv hb
  have hb0 : Below w.heap.size w w.drew := (Below.refl _ _).drew
  have ba := Gm.vld_at hv ha
  have bb := Gm.vld_at hv hb
  have Va := Lib.hid (Val.out a ha)
  have Vb := Lib.hid (Val.out b hb)
  have ha5 : a < 32 := by omega
  have hb5 : b < 32 := by omega
  obtain ⟨u, hu, hul⟩ := Pr.uni_at hv ha hb
  obtain ⟨v, hv2, hvl⟩ := Pr.ovl_at hv ha hb
  have bu := Gm.vld_at hv hul
  have bv := Gm.vld_at hv hvl
  have Vu := Lib.hid (Val.out u hul)
  have Vv := Lib.hid (Val.out v hvl)
  have Hu := Lib.hid (fun W' => (impl_Union (a : Int) (b : Int) hga hgb W').mono fun _ w' h => (show _ ∧ w' = W' from ⟨h.1, h.2.symm⟩))
  have Ho := Lib.hid (fun W' => (impl_Overlap (a : Int) (b : Int) hga hgb W').mono fun _ w' h => (show _ ∧ w' = W' from ⟨h.1, h.2.symm⟩))
  rw [hu] at Hu
  rw [hv2] at Ho
  have hok : Pr.okC g a b = decide (g.v.getD a 0 + g.v.getD b 0 ≤ g.v.getD u 0 + g.v.getD v 0) := by unfold Pr.okC Pr.at'; rw [hu, hv2, Int.toNat_natCast, Int.toNat_natCast]
  rw [hok]
  generalize g.v.getD a 0 = X at *
  generalize g.v.getD b 0 = Y at *
  generalize g.v.getD u 0 = Z at *
  generalize g.v.getD v 0 = V at *
  have hw1 : IntKind.i64.wrap (X + Y) = X + Y := IntWalk.i64_in _ (by omega)
  have hw2 : IntKind.i64.wrap (Z + V) = Z + V := IntWalk.i64_in _ (by omega)
  have hul5 : u < 32 := by omega
  have hvl5 : v < 32 := by omega
  clear hq h hf Val hga hgb hv hok hl ha hb hu hv2 hul hvl
  go_enter Try.func65, Try.ntmps65
  go_upto_region 1 with fail
  refine wp_region_T_drew (S := (fun w' => w'.cell? ⟨q, 0, none⟩ = some x ∧ w'.cell? ⟨q, 1, none⟩ = some y ∧ Below w.heap.size w w')) 19 (by kernel_rfl) ?_ (fun hHeld => ?_)
  · exact Cell.out _ hb0
  refine wpAnyT_take (i := 0) (oi := { dst := some 6, op := Op.load 26 (Operand.tmp 2), type := 26, pos := "l10_property.go:21", after := #[], guard := none }) (v := ?_) rfl (by kernel_rfl) (fun _ _ _ h => h) (Or.inl ⟨by rfl, ?_⟩) (by assumption) ?_
  rotate_left 1
  · intro w hSw; (try dsimp only at hSw); go_simp; try (with_reducible rfl)
  try simp only [Act.put, List.setIfInBounds_toArray, List.set_cons_zero, List.set_cons_succ]
  refine wpAnyT_take (i := 1) (oi := { dst := some 7, op := Op.move (Operand.tmp 0), type := 3, pos := "l10_property.go:21", after := #[], guard := none }) (v := ?_) rfl (by kernel_rfl) (fun _ _ _ h => h) (Or.inl ⟨by rfl, ?_⟩) (by assumption) ?_
  rotate_left 1
  · intro w hSw; (try dsimp only at hSw); go_simp; try (with_reducible rfl)
  try simp only [Act.put, List.setIfInBounds_toArray, List.set_cons_zero, List.set_cons_succ]
  refine wpAnyT_take (i := 3) (oi := { dst := some 9, op := Op.load 26 (Operand.tmp 2), type := 26, pos := "l10_property.go:21", after := #[], guard := none }) (v := ?_) rfl (by kernel_rfl) (fun _ _ _ h => h) (Or.inl ⟨by rfl, ?_⟩) (by assumption) ?_
  rotate_left 1
  · intro w hSw; (try dsimp only at hSw); go_simp; try (with_reducible rfl)
  try simp only [Act.put, List.setIfInBounds_toArray, List.set_cons_zero, List.set_cons_succ]
  refine wpAnyT_take (i := 4) (oi := { dst := some 10, op := Op.move (Operand.tmp 1), type := 3, pos := "l10_property.go:21", after := #[], guard := none }) (v := ?_) rfl (by kernel_rfl) (fun _ _ _ h => h) (Or.inl ⟨by rfl, ?_⟩) (by assumption) ?_
  rotate_left 1
  · intro w hSw; (try dsimp only at hSw); go_simp; try (with_reducible rfl)
  try simp only [Act.put, List.setIfInBounds_toArray, List.set_cons_zero, List.set_cons_succ]
  refine wpAnyT_take (i := 7) (oi := { dst := some 13, op := Op.load 26 (Operand.tmp 2), type := 26, pos := "l10_property.go:21", after := #[], guard := none }) (v := ?_) rfl (by kernel_rfl) (fun _ _ _ h => h) (Or.inl ⟨by rfl, ?_⟩) (by assumption) ?_
  rotate_left 1
  · intro w hSw; (try dsimp only at hSw); go_simp; try (with_reducible rfl)
  try simp only [Act.put, List.setIfInBounds_toArray, List.set_cons_zero, List.set_cons_succ]
  refine wpAnyT_take (i := 8) (oi := { dst := some 14, op := Op.move (Operand.tmp 0), type := 3, pos := "l10_property.go:21", after := #[], guard := none }) (v := ?_) rfl (by kernel_rfl) (fun _ _ _ h => h) (Or.inl ⟨by rfl, ?_⟩) (by assumption) ?_
  rotate_left 1
  · intro w hSw; (try dsimp only at hSw); go_simp; try (with_reducible rfl)
  try simp only [Act.put, List.setIfInBounds_toArray, List.set_cons_zero, List.set_cons_succ]
  refine wpAnyT_take (i := 9) (oi := { dst := some 15, op := Op.move (Operand.tmp 1), type := 3, pos := "l10_property.go:21", after := #[], guard := none }) (v := ?_) rfl (by kernel_rfl) (fun _ _ _ h => h) (Or.inl ⟨by rfl, ?_⟩) (by assumption) ?_
  rotate_left 1
  · intro w hSw; (try dsimp only at hSw); go_simp; try (with_reducible rfl)
  try simp only [Act.put, List.setIfInBounds_toArray, List.set_cons_zero, List.set_cons_succ]
  refine wpAnyT_take (i := 12) (oi := { dst := some 18, op := Op.load 26 (Operand.tmp 2), type := 26, pos := "l10_property.go:21", after := #[], guard := none }) (v := ?_) rfl (by kernel_rfl) (fun _ _ _ h => h) (Or.inl ⟨by rfl, ?_⟩) (by assumption) ?_
  rotate_left 1
  · intro w hSw; (try dsimp only at hSw); go_simp; try (with_reducible rfl)
  try simp only [Act.put, List.setIfInBounds_toArray, List.set_cons_zero, List.set_cons_succ]
  refine wpAnyT_take (i := 13) (oi := { dst := some 19, op := Op.move (Operand.tmp 0), type := 3, pos := "l10_property.go:21", after := #[], guard := none }) (v := ?_) rfl (by kernel_rfl) (fun _ _ _ h => h) (Or.inl ⟨by rfl, ?_⟩) (by assumption) ?_
  rotate_left 1
  · intro w hSw; (try dsimp only at hSw); go_simp; try (with_reducible rfl)
  try simp only [Act.put, List.setIfInBounds_toArray, List.set_cons_zero, List.set_cons_succ]
  refine wpAnyT_take (i := 14) (oi := { dst := some 20, op := Op.move (Operand.tmp 1), type := 3, pos := "l10_property.go:21", after := #[], guard := none }) (v := ?_) rfl (by kernel_rfl) (fun _ _ _ h => h) (Or.inl ⟨by rfl, ?_⟩) (by assumption) ?_
  rotate_left 1
  · intro w hSw; (try dsimp only at hSw); go_simp; try (with_reducible rfl)
  try simp only [Act.put, List.setIfInBounds_toArray, List.set_cons_zero, List.set_cons_succ]
  refine wpAnyT_ready (rs := [2]) (by kernel_rfl) (by simp) ?_
  refine (AllReadyT.cons (o := { dst := some 8, op := Op.call { callee := Callee.value (Operand.func 18), args := #[Operand.tmp 6, Operand.tmp 7], argTypes := #[26, 3] }, type := 3, pos := "l10_property.go:21", after := #[{ on := 0, ground := Ground.data }, { on := 1, ground := Ground.data }], guard := none }) (rs := []) rfl (fun K hK => ?_) AllReadyT.nil)
  go_simp
  (refine (Va.out _ hb0).mono ?_; rintro e w2 ⟨rfl, k⟩; have hb2 := hb0.trans (k.mono hb0.size))
  refine hK.out _ _ ?_ (fun hHeld => ?_)
  · exact Cell.out _ hb2
  clear hK K
  try simp only [Act.put, List.setIfInBounds_toArray, List.set_cons_zero, List.set_cons_succ]
  refine wpAnyT_ready (rs := [5]) (by kernel_rfl) (by simp) ?_
  refine (AllReadyT.cons (o := { dst := some 11, op := Op.call { callee := Callee.value (Operand.func 18), args := #[Operand.tmp 9, Operand.tmp 10], argTypes := #[26, 3] }, type := 3, pos := "l10_property.go:21", after := #[{ on := 3, ground := Ground.data }, { on := 4, ground := Ground.data }, { on := 2, ground := Ground.chain }], guard := none }) (rs := []) rfl (fun K hK => ?_) AllReadyT.nil)
  go_simp
  (refine (Vb.out _ hb2).mono ?_; rintro e w3 ⟨rfl, k⟩; have hb3 := hb2.trans (k.mono hb2.size))
  refine hK.out _ _ ?_ (fun hHeld => ?_)
  · exact Cell.out _ hb3
  clear hK K
  try simp only [Act.put, List.setIfInBounds_toArray, List.set_cons_zero, List.set_cons_succ]
  refine wpAnyT_take (i := 6) (oi := { dst := some 12, op := Op.binOp BinOp.add 3 (Operand.tmp 8) (Operand.tmp 11) 3, type := 3, pos := "l10_property.go:21", after := #[{ on := 2, ground := Ground.data }, { on := 5, ground := Ground.data }], guard := none }) (v := ?_) rfl (by kernel_rfl) (fun _ _ _ h => h) (Or.inl ⟨by rfl, ?_⟩) (by assumption) ?_
  rotate_left 1
  · intro w hSw; (try dsimp only at hSw); go_simp; try (with_reducible rfl)
  try simp only [Act.put, List.setIfInBounds_toArray, List.set_cons_zero, List.set_cons_succ]
  refine wpAnyT_ready (rs := [10]) (by kernel_rfl) (by simp) ?_
  refine (AllReadyT.cons (o := { dst := some 16, op := Op.call { callee := Callee.value (Operand.func 19), args := #[Operand.tmp 14, Operand.tmp 15], argTypes := #[3, 3] }, type := 3, pos := "l10_property.go:21", after := #[{ on := 8, ground := Ground.data }, { on := 9, ground := Ground.data }, { on := 5, ground := Ground.chain }], guard := none }) (rs := []) rfl (fun K hK => ?_) AllReadyT.nil)
  go_simp
  (refine (Hu.out _).mono ?_; rintro e w4 ⟨rfl, rfl⟩)
  refine hK.out _ _ ?_ (fun hHeld => ?_)
  · exact Cell.out _ hb3
  clear hK K
  try simp only [Act.put, List.setIfInBounds_toArray, List.set_cons_zero, List.set_cons_succ]
  refine wpAnyT_ready (rs := [11]) (by kernel_rfl) (by simp) ?_
  refine (AllReadyT.cons (o := { dst := some 17, op := Op.call { callee := Callee.value (Operand.func 18), args := #[Operand.tmp 13, Operand.tmp 16], argTypes := #[26, 3] }, type := 3, pos := "l10_property.go:21", after := #[{ on := 7, ground := Ground.data }, { on := 10, ground := Ground.data }, { on := 10, ground := Ground.chain }], guard := none }) (rs := []) rfl (fun K hK => ?_) AllReadyT.nil)
  go_simp
  (refine (Vu.out _ hb3).mono ?_; rintro e w5 ⟨rfl, k⟩; have hb5 := hb3.trans (k.mono hb3.size))
  refine hK.out _ _ ?_ (fun hHeld => ?_)
  · exact Cell.out _ hb5
  clear hK K
  try simp only [Act.put, List.setIfInBounds_toArray, List.set_cons_zero, List.set_cons_succ]
  refine wpAnyT_ready (rs := [15]) (by kernel_rfl) (by simp) ?_
  refine (AllReadyT.cons (o := { dst := some 21, op := Op.call { callee := Callee.value (Operand.func 20), args := #[Operand.tmp 19, Operand.tmp 20], argTypes := #[3, 3] }, type := 3, pos := "l10_property.go:21", after := #[{ on := 13, ground := Ground.data }, { on := 14, ground := Ground.data }, { on := 11, ground := Ground.chain }], guard := none }) (rs := []) rfl (fun K hK => ?_) AllReadyT.nil)
  go_simp
  (refine (Ho.out _).mono ?_; rintro e w6 ⟨rfl, rfl⟩)
  refine hK.out _ _ ?_ (fun hHeld => ?_)
  · exact Cell.out _ hb5
  clear hK K
  try simp only [Act.put, List.setIfInBounds_toArray, List.set_cons_zero, List.set_cons_succ]
  refine wpAnyT_ready (rs := [16]) (by kernel_rfl) (by simp) ?_
  refine (AllReadyT.cons (o := { dst := some 22, op := Op.call { callee := Callee.value (Operand.func 18), args := #[Operand.tmp 18, Operand.tmp 21], argTypes := #[26, 3] }, type := 3, pos := "l10_property.go:21", after := #[{ on := 12, ground := Ground.data }, { on := 15, ground := Ground.data }, { on := 15, ground := Ground.chain }], guard := none }) (rs := []) rfl (fun K hK => ?_) AllReadyT.nil)
  go_simp
  (refine (Vv.out _ hb5).mono ?_; rintro e w7 ⟨rfl, k⟩; have hb7 := hb5.trans (k.mono hb5.size))
  refine hK.out _ _ ?_ (fun hHeld => ?_)
  · exact Cell.out _ hb7
  clear hK K
  try simp only [Act.put, List.setIfInBounds_toArray, List.set_cons_zero, List.set_cons_succ]
  refine wpAnyT_take (i := 17) (oi := { dst := some 23, op := Op.binOp BinOp.add 3 (Operand.tmp 17) (Operand.tmp 22) 3, type := 3, pos := "l10_property.go:21", after := #[{ on := 11, ground := Ground.data }, { on := 16, ground := Ground.data }], guard := none }) (v := ?_) rfl (by kernel_rfl) (fun _ _ _ h => h) (Or.inl ⟨by rfl, ?_⟩) (by assumption) ?_
  rotate_left 1
  · intro w hSw; (try dsimp only at hSw); go_simp; try (with_reducible rfl)
  try simp only [Act.put, List.setIfInBounds_toArray, List.set_cons_zero, List.set_cons_succ]
  refine wpAnyT_take (i := 18) (oi := { dst := some 24, op := Op.binOp BinOp.leq 3 (Operand.tmp 12) (Operand.tmp 23) 3, type := 4, pos := "l10_property.go:21", after := #[{ on := 6, ground := Ground.data }, { on := 17, ground := Ground.data }], guard := none }) (v := ?_) rfl (by kernel_rfl) (fun _ _ _ h => h) (Or.inl ⟨by rfl, ?_⟩) (by assumption) ?_
  rotate_left 1
  · intro w hSw; (try dsimp only at hSw); go_simp; try (with_reducible rfl)
  try simp only [Act.put, List.setIfInBounds_toArray, List.set_cons_zero, List.set_cons_succ]
  refine wpAnyT_ready (rs := [19]) (by kernel_rfl) (by simp) ?_
  refine (AllReadyT.last (o := { dst := some 5, op := Op.assign (Operand.tmp 24), type := 4, pos := "l10_property.go:21", after := #[{ on := 18, ground := Ground.data }, { on := 16, ground := Ground.chain }, { on := 0, ground := Ground.phase }, { on := 1, ground := Ground.phase }, { on := 2, ground := Ground.phase }, { on := 3, ground := Ground.phase }, { on := 4, ground := Ground.phase }, { on := 5, ground := Ground.phase }, { on := 6, ground := Ground.phase }, { on := 7, ground := Ground.phase }, { on := 8, ground := Ground.phase }, { on := 9, ground := Ground.phase }, { on := 10, ground := Ground.phase }, { on := 11, ground := Ground.phase }, { on := 12, ground := Ground.phase }, { on := 13, ground := Ground.phase }, { on := 14, ground := Ground.phase }, { on := 15, ground := Ground.phase }, { on := 16, ground := Ground.phase }, { on := 17, ground := Ground.phase }, { on := 18, ground := Ground.phase }], guard := none }) (rs := []) rfl (by rfl) (fun K hK => ?_) AllReadyT.nil)
  go_simp
  refine hK.out _ _ ?_
  clear hK K
  try simp only [Act.put, List.setIfInBounds_toArray, List.set_cons_zero, List.set_cons_succ]
  refine wpAnyT_done (by kernel_rfl) ?_ _
  go_wp2_with fail
  go_ret
  exact ⟨rfl, hb7⟩
theorem impl_convex (x y : Value) (w : World) : Calls Try.prog 45 #[.agg #[x, y]] w fun e w' => e = .returned (.func (.func 65) #[] #[.pointer (some ⟨w.heap.size, 0, none⟩)]) ∧ w' = w.alloc (.cells #[x, y] 26) := by
  have hmf : ∀ (fn : Fn) (first cap : Array Value) (w : World), (Instr.makeFunc fn first cap).run Try.prog w = .ok (.func fn first cap) w := fun _ _ _ _ => rfl
  go_enter Try.func45, Try.ntmps45
  go_wp2_with fail
  go_ret
  exact ⟨rfl, rfl⟩
set_option maxRecDepth 100000 in
set_option maxHeartbeats 4000000 in
theorem impl_firstFault {w : World} {x y q : Value} {g : G} {A B : Int} {bad : Bool} (f : G → Nat → Nat → Bool) (hF : Pr.fault f g = (A, B, bad)) (F : Nat) (hE : ∀ (args : Array Value) (w : World), (callFunc F args).run Try.prog w = .ok (.enter F args) w) (h : GmC w x y g) (hf : GmOk g)
    (hq : Gm.vld g = true → ∀ (w' : World) (a b : Nat), a < g.v.length → b < g.v.length → Below w.heap.size w w' → Calls Try.prog F #[.int .i64 a, .int .i64 b, q] w' fun e w'' => e = .returned (.bool (f g a b)) ∧ Below w'.heap.size w' w'') :
    Calls Try.prog 44 #[.agg #[x, y], .func (.func F) #[] #[q]] w fun e w' => e = .returned (.tuple #[.int .i64 A, .int .i64 B, .bool bad]) ∧ Below w.heap.size w w' := by
  have HX := Lib.hid (gm_box h 26).1
  have HBl := Lib.hid (gm_box h 26).2
  have HC := Lib.hid (CellsAt.new w #[x, y] 26)
  obtain ⟨W, hW⟩ : ∃ W, W = w.alloc (.cells #[x, y] 26) := ⟨_, rfl⟩
  have hws : W.heap.size = w.heap.size + 1 := by rw [hW, size1]
  rw [← hW] at HX HBl HC
  have HF := Lib.hid hf
  have HW := Lib.hid hW
  have HQ := Lib.hid hq
  have hle : w.heap.size ≤ W.heap.size := HBl.out.size
  clear h hf hW hq hws
  rcases hv : Gm.vld g with _ | _
  · have HV := Lib.hid hv
    have Hr := Lib.hid ((Pr.fault_no hv).symm.trans hF)
    obtain ⟨m0, m1⟩ := two HC.out
    clear hv hF HQ
    go_enter Try.func44, Try.ntmps44
    go_wp2_with fail
    rw [← HW.out]
    clear HW
    refine (impl_IsValidGame false HV.out HX.out HF.out).mono ?_
    rintro e w1 ⟨rfl, k⟩
    have HB1 := Lib.hid (HBl.out.trans (k.mono HBl.out.size))
    clear k
    go_wp2_with fail
    go_ret3
    exact ⟨ret3 Hr.out, HB1.out⟩
  · have HV := Lib.hid hv
    have HFl := Lib.hid ((Pr.fault_yes (f := f) hv).symm.trans hF)
    have hl := Gm.vld_len hv
    have hx0 := HX.out
    obtain ⟨a, c, rfl, rfl, _⟩ := hx0
    replace HQ := Lib.hid (HQ.out hv)
    obtain ⟨N, hN⟩ : ∃ N, g.v.length = N := ⟨_, rfl⟩
    rw [hN] at HFl hl HC HW HQ
    have HX1 : Hid (GmC W (.int .i64 g.n) (.slice a N c) g) := by rw [← hN]; exact HX.out
    rw [hN]
    replace HX := HX1
    obtain ⟨m0, m1⟩ := two HC.out
    have HE := Lib.hid hE
    clear hv hF hN HX1
    go_enter Try.func44, Try.ntmps44
    go_wp2_with fail
    rw [← HW.out]
    clear HW
    refine (impl_IsValidGame true HV.out HX.out HF.out).mono ?_
    rintro e w1 ⟨rfl, k⟩
    obtain ⟨m2, m3⟩ := two (HC.out.below k)
    have HB0 := Lib.hid k
    clear k m0 m1
    go_wp2_with fail
    go_loopw [15] (fun i wr => ∃ p : Nat, p ≤ N ∧ i = .int .i64 p ∧ Hid (Below W.heap.size W wr) ∧ Hid (∀ c, c < p → ∀ d, d < N → f g c d = true)) (fun i _ => N - (intOf i).toNat)
    case atStart => exact ⟨0, Nat.zero_le _, rfl, HB0, fun c hc => absurd hc (by omega)⟩
    case round =>
      obtain ⟨p, hp, rfl, hB, hA⟩ := hrel
      clear m2 m3 HB0
      by_cases hlt : p < N
      · obtain ⟨m2, m3⟩ := two (HC.out.below hB.out)
        go_wp2_with fail
        go_loopw [21] (fun i wr => ∃ r : Nat, r ≤ N ∧ i = .int .i64 r ∧ Hid (Below W.heap.size W wr) ∧ Hid (∀ d, d < r → f g p d = true)) (fun i _ => N - (intOf i).toNat)
        case atStart => exact ⟨0, Nat.zero_le _, rfl, hB, fun d hd => absurd hd (by omega)⟩
        case round =>
          obtain ⟨r, hr, rfl, hB2, hA2⟩ := hrel
          clear m2 m3
          by_cases hlq : r < N
          · have HCall := Lib.hid (HQ.out wr p r hlt hlq (HBl.out.trans (hB2.out.mono hle)))
            rcases hok : f g p r with _ | _
            · have Hr := Lib.hid ((Pr.flt_hit (f := f g) hlt hlq hok hA.out hA2.out).symm.trans HFl.out)
              rw [hok] at HCall
              clear hok
              go_wp2_with fail
              refine HCall.out.mono ?_
              rintro e w2 ⟨rfl, k⟩
              have HB3 := Lib.hid (HBl.out.trans ((hB2.out.trans (k.mono hB2.out.size)).mono hle))
              clear k
              go_wp2_with fail
              go_ret3
              exact ⟨ret3 Hr.out, HB3.out⟩
            · have HA3 : Hid (∀ d, d < r + 1 → f g p d = true) := fun d hd => by
                by_cases e : d = r
                · subst e; exact hok
                · exact hA2.out d (by omega)
              rw [hok] at HCall
              clear hok
              go_wp2_with fail
              refine HCall.out.mono ?_
              rintro e w2 ⟨rfl, k⟩
              have HB3 := Lib.hid (hB2.out.trans (k.mono hB2.out.size))
              clear k
              go_wp2_with fail
              go_roundw
              case rel => exact ⟨r + 1, by omega, by go_num, HB3, HA3⟩
              case measure => simp [intOf]; omega
          · have HA3 : Hid (∀ c, c < p + 1 → ∀ d, d < N → f g c d = true) := fun c hc d hd => by
              by_cases e : c = p
              · subst e; exact hA2.out d (by omega)
              · exact hA.out c (by omega) d hd
            go_wp2_with fail
            go_roundw
            case rel => exact ⟨p + 1, by omega, by go_num, hB2, HA3⟩
            case measure => simp [intOf]; omega
      · have Hr := Lib.hid ((Pr.flt_none (f := f g) (fun c hc d hd => hA.out c (by omega) d hd)).symm.trans HFl.out)
        go_wp2_with fail
        go_ret3
        exact ⟨ret3 Hr.out, HBl.out.trans (hB.out.mono hle)⟩
set_option maxRecDepth 100000 in
set_option maxHeartbeats 4000000 in
theorem impl_isFaultless {w : World} {x y q : Value} {g : G} (f : G → Nat → Nat → Bool) (b : Bool) (hb : Pr.has f g = b) (F : Nat) (hE : ∀ (args : Array Value) (w : World), (callFunc F args).run Try.prog w = .ok (.enter F args) w) (h : GmC w x y g) (hf : GmOk g)
    (hq : Gm.vld g = true → ∀ (w' : World) (a b : Nat), a < g.v.length → b < g.v.length → Below w.heap.size w w' → Calls Try.prog F #[.int .i64 a, .int .i64 b, q] w' fun e w'' => e = .returned (.bool (f g a b)) ∧ Below w'.heap.size w' w'') :
    Calls Try.prog 47 #[.agg #[x, y], .func (.func F) #[] #[q]] w fun e w' => e = .returned (.bool b) ∧ Below w.heap.size w w' := by
  obtain ⟨A, B, bad, hF⟩ : ∃ A B bad, Pr.fault f g = (A, B, bad) := ⟨_, _, _, rfl⟩
  obtain ⟨v, hv⟩ : ∃ v, Gm.vld g = v := ⟨_, rfl⟩
  have HX := Lib.hid (gm_box h 26).1
  have HBl := Lib.hid (gm_box h 26).2
  have HF := Lib.hid hF
  have HV := Lib.hid hv
  have Hr := Lib.hid ((Pr.has_of hF hv).symm.trans hb)
  have HC := Lib.hid (CellsAt.new w #[x, y] 26)
  have HQ := Lib.hid (fun hv (w' : World) (a b : Nat) ha hb (hB : Below (w.alloc (.cells #[x, y] 26)).heap.size (w.alloc (.cells #[x, y] 26)) w') => hq hv w' a b ha hb (HBl.out.trans (hB.mono HBl.out.size)))
  have HE := Lib.hid hE
  obtain ⟨m0, m1⟩ := two HC.out
  clear h hF hv hb hq hE
  go_enter Try.func47, Try.ntmps47
  go_wp2_with fail
  refine (impl_firstFault f HF.out F HE.out HX.out hf HQ.out).mono ?_
  rintro e w1 ⟨rfl, k⟩
  obtain ⟨m2, m3⟩ := two (HC.out.below k)
  have HX1 := Lib.hid (HX.out.up k)
  have HB1 := Lib.hid (HBl.out.trans (k.mono HBl.out.size))
  clear k m0 m1 HX HQ
  go_wp2_with fail
  refine (impl_IsValidGame v HV.out HX1.out hf).mono ?_
  rintro e w2 ⟨rfl, k⟩
  have HB2 := Lib.hid (HB1.out.trans (k.mono HB1.out.size))
  clear k m2 m3
  rcases v with _ | _
  · go_wp2_with fail
    go_ret
    exact ⟨ret_bool Hr.out, HB2.out⟩
  · go_wp2_with fail
    go_ret
    exact ⟨ret_bool Hr.out, HB2.out⟩
set_option maxRecDepth 100000 in
set_option maxHeartbeats 4000000 in
theorem impl_MonotoneFault {w : World} {x y : Value} {g : G} {A B : Int} {bad : Bool} (hF : Pr.fault Pr.okM g = (A, B, bad)) (h : GmC w x y g) (hf : GmOk g) :
    Calls Try.prog 21 #[.agg #[x, y]] w fun e w' => e = .returned (.tuple #[.int .i64 A, .int .i64 B, .bool bad]) ∧ Below w.heap.size w w' := by
  have HX := Lib.hid (gm_box h 26).1
  have HBl := Lib.hid (gm_box h 26).2
  have HC := Lib.hid (CellsAt.new w #[x, y] 26)
  have Hr := Lib.hid hF
  obtain ⟨W, hW⟩ : ∃ W, W = w.alloc (.cells #[x, y] 26) := ⟨_, rfl⟩
  obtain ⟨q, hq⟩ : ∃ q, q = w.heap.size := ⟨_, rfl⟩
  rw [← hW] at HX HBl HC
  rw [← hq] at HC
  have HF := Lib.hid hf
  have HW := Lib.hid hW
  have Hq := Lib.hid hq
  have Cell := Lib.hid (fun w' (hb : Below W.heap.size W w') => (show w'.cell? ⟨q, 0, none⟩ = some x ∧ w'.cell? ⟨q, 1, none⟩ = some y ∧ Below W.heap.size W w' from ⟨(two (HC.out.below hb)).1, (two (HC.out.below hb)).2, hb⟩))
  have hb0 : Below W.heap.size W W.drew := (Below.refl _ _).drew
  have HE := Lib.hid (enters_of (P := Try.prog) Try.func70 (by kernel_rfl) rfl)
  have HQ : Hid (Gm.vld g = true → ∀ (w' : World) (a b : Nat), a < g.v.length → b < g.v.length → Below (W.drew.alloc (.cells #[x, y] 26)).heap.size (W.drew.alloc (.cells #[x, y] 26)) w' → Calls Try.prog 70 #[.int .i64 a, .int .i64 b, .pointer (some ⟨W.drew.heap.size, 0, none⟩)] w' fun e w'' => e = .returned (.bool (Pr.okM g a b)) ∧ Below w'.heap.size w' w'') := fun hv w' a b ha hb hB =>
    impl_monotone1 hv ((CellsAt.new W.drew #[x, y] 26).below hB) ((HX.out.up (hb0.alloc (Nat.le_refl _) _)).up hB) HF.out a b ha hb
  clear h hf hW hq hF
  go_enter Try.func21, Try.ntmps21
  go_upto_region 1 with fail
  rw [← Hq.out, ← HW.out]
  refine wp_region_T_drew (S := (fun w' => w'.cell? ⟨q, 0, none⟩ = some x ∧ w'.cell? ⟨q, 1, none⟩ = some y ∧ Below W.heap.size W w')) 7 (by kernel_rfl) ?_ (fun hHeld => ?_)
  · exact Cell.out _ hb0
  refine wpAnyT_take (i := 0) (oi := { dst := some 5, op := Op.load 26 (Operand.tmp 1), type := 26, pos := "l10_property.go:25", after := #[], guard := none }) (v := ?_) rfl (by kernel_rfl) (fun _ _ _ h => h) (Or.inl ⟨by rfl, ?_⟩) (by assumption) ?_
  rotate_left 1
  · intro w hSw; (try dsimp only at hSw); go_simp; try (with_reducible rfl)
  try simp only [Act.put, List.setIfInBounds_toArray, List.set_cons_zero, List.set_cons_succ]
  refine wpAnyT_take (i := 1) (oi := { dst := some 6, op := Op.load 26 (Operand.tmp 1), type := 26, pos := "l10_property.go:25", after := #[], guard := none }) (v := ?_) rfl (by kernel_rfl) (fun _ _ _ h => h) (Or.inl ⟨by rfl, ?_⟩) (by assumption) ?_
  rotate_left 1
  · intro w hSw; (try dsimp only at hSw); go_simp; try (with_reducible rfl)
  try simp only [Act.put, List.setIfInBounds_toArray, List.set_cons_zero, List.set_cons_succ]
  refine wpAnyT_ready (rs := [2]) (by kernel_rfl) (by simp) ?_
  refine (AllReadyT.cons (o := { dst := some 7, op := Op.call { callee := Callee.value (Operand.func 50), args := #[Operand.tmp 6], argTypes := #[26] }, type := 48, pos := "l10_property.go:25", after := #[{ on := 1, ground := Ground.data }], guard := none }) (rs := []) rfl (fun K hK => ?_) AllReadyT.nil)
  go_simp
  (refine (impl_monotone x y _).mono ?_; rintro e w1 ⟨rfl, rfl⟩; have hb1 := hb0.alloc (Nat.le_refl _) (.cells #[x, y] 26))
  refine hK.out _ _ ?_ (fun hHeld => ?_)
  · exact Cell.out _ hb1
  clear hK K
  try simp only [Act.put, List.setIfInBounds_toArray, List.set_cons_zero, List.set_cons_succ]
  refine wpAnyT_ready (rs := [3]) (by kernel_rfl) (by simp) ?_
  refine (AllReadyT.cons (o := { dst := some 8, op := Op.call { callee := Callee.value (Operand.func 44), args := #[Operand.tmp 5, Operand.tmp 7], argTypes := #[26, 48] }, type := 28, pos := "l10_property.go:25", after := #[{ on := 0, ground := Ground.data }, { on := 2, ground := Ground.data }, { on := 2, ground := Ground.chain }], guard := none }) (rs := []) rfl (fun K hK => ?_) AllReadyT.nil)
  go_simp
  (refine (impl_firstFault Pr.okM Hr.out 70 HE.out (HX.out.up hb1) HF.out HQ.out).mono ?_; rintro e w2 ⟨rfl, k⟩; have hb2 := hb1.trans (k.mono hb1.size))
  refine hK.out _ _ ?_ (fun hHeld => ?_)
  · exact Cell.out _ hb2
  clear hK K
  try simp only [Act.put, List.setIfInBounds_toArray, List.set_cons_zero, List.set_cons_succ]
  refine wpAnyT_take (i := 4) (oi := { dst := some 9, op := Op.extract (Operand.tmp 8) 0, type := 3, pos := "l10_property.go:25", after := #[{ on := 3, ground := Ground.data }], guard := none }) (v := ?_) rfl (by kernel_rfl) (fun _ _ _ h => h) (Or.inl ⟨by rfl, ?_⟩) (by assumption) ?_
  rotate_left 1
  · intro w hSw; (try dsimp only at hSw); go_simp; try (with_reducible rfl)
  try simp only [Act.put, List.setIfInBounds_toArray, List.set_cons_zero, List.set_cons_succ]
  refine wpAnyT_take (i := 5) (oi := { dst := some 10, op := Op.extract (Operand.tmp 8) 1, type := 3, pos := "l10_property.go:25", after := #[{ on := 3, ground := Ground.data }], guard := none }) (v := ?_) rfl (by kernel_rfl) (fun _ _ _ h => h) (Or.inl ⟨by rfl, ?_⟩) (by assumption) ?_
  rotate_left 1
  · intro w hSw; (try dsimp only at hSw); go_simp; try (with_reducible rfl)
  try simp only [Act.put, List.setIfInBounds_toArray, List.set_cons_zero, List.set_cons_succ]
  refine wpAnyT_take (i := 6) (oi := { dst := some 11, op := Op.extract (Operand.tmp 8) 2, type := 4, pos := "l10_property.go:25", after := #[{ on := 3, ground := Ground.data }], guard := none }) (v := ?_) rfl (by kernel_rfl) (fun _ _ _ h => h) (Or.inl ⟨by rfl, ?_⟩) (by assumption) ?_
  rotate_left 1
  · intro w hSw; (try dsimp only at hSw); go_simp; try (with_reducible rfl)
  try simp only [Act.put, List.setIfInBounds_toArray, List.set_cons_zero, List.set_cons_succ]
  refine wpAnyT_ready (rs := [7]) (by kernel_rfl) (by simp) ?_
  refine (AllReadyT.last (o := { dst := some 2, op := Op.assign (Operand.tmp 9), type := 3, pos := "l10_property.go:25", after := #[{ on := 4, ground := Ground.data }, { on := 3, ground := Ground.chain }, { on := 0, ground := Ground.phase }, { on := 1, ground := Ground.phase }, { on := 2, ground := Ground.phase }, { on := 3, ground := Ground.phase }, { on := 4, ground := Ground.phase }, { on := 5, ground := Ground.phase }, { on := 6, ground := Ground.phase }], guard := none }) (rs := []) rfl (by rfl) (fun K hK => ?_) AllReadyT.nil)
  go_simp
  refine hK.out _ _ ?_
  clear hK K
  try simp only [Act.put, List.setIfInBounds_toArray, List.set_cons_zero, List.set_cons_succ]
  refine wpAnyT_ready (rs := [8]) (by kernel_rfl) (by simp) ?_
  refine (AllReadyT.last (o := { dst := some 3, op := Op.assign (Operand.tmp 10), type := 3, pos := "l10_property.go:25", after := #[{ on := 5, ground := Ground.data }, { on := 7, ground := Ground.chain }, { on := 0, ground := Ground.phase }, { on := 1, ground := Ground.phase }, { on := 2, ground := Ground.phase }, { on := 3, ground := Ground.phase }, { on := 4, ground := Ground.phase }, { on := 5, ground := Ground.phase }, { on := 6, ground := Ground.phase }, { on := 7, ground := Ground.phase }], guard := none }) (rs := []) rfl (by rfl) (fun K hK => ?_) AllReadyT.nil)
  go_simp
  refine hK.out _ _ ?_
  clear hK K
  try simp only [Act.put, List.setIfInBounds_toArray, List.set_cons_zero, List.set_cons_succ]
  refine wpAnyT_ready (rs := [9]) (by kernel_rfl) (by simp) ?_
  refine (AllReadyT.last (o := { dst := some 4, op := Op.assign (Operand.tmp 11), type := 4, pos := "l10_property.go:25", after := #[{ on := 6, ground := Ground.data }, { on := 8, ground := Ground.chain }, { on := 0, ground := Ground.phase }, { on := 1, ground := Ground.phase }, { on := 2, ground := Ground.phase }, { on := 3, ground := Ground.phase }, { on := 4, ground := Ground.phase }, { on := 5, ground := Ground.phase }, { on := 6, ground := Ground.phase }, { on := 7, ground := Ground.phase }, { on := 8, ground := Ground.phase }], guard := none }) (rs := []) rfl (by rfl) (fun K hK => ?_) AllReadyT.nil)
  go_simp
  refine hK.out _ _ ?_
  clear hK K
  try simp only [Act.put, List.setIfInBounds_toArray, List.set_cons_zero, List.set_cons_succ]
  refine wpAnyT_done (by kernel_rfl) ?_ _
  go_wp2_with fail
  go_ret3
  exact ⟨rfl, HBl.out.trans (hb2.mono HBl.out.size)⟩
set_option maxRecDepth 100000 in
set_option maxHeartbeats 4000000 in
theorem impl_IsMonotone {w : World} {x y : Value} {g : G} (b : Bool) (hb : Pr.has Pr.okM g = b) (h : GmC w x y g) (hf : GmOk g) :
    Calls Try.prog 26 #[.agg #[x, y]] w fun e w' => e = .returned (.bool b) ∧ Below w.heap.size w w' := by
  have HX := Lib.hid (gm_box h 26).1
  have HBl := Lib.hid (gm_box h 26).2
  have HC := Lib.hid (CellsAt.new w #[x, y] 26)
  have Hr := Lib.hid hb
  obtain ⟨W, hW⟩ : ∃ W, W = w.alloc (.cells #[x, y] 26) := ⟨_, rfl⟩
  obtain ⟨q, hq⟩ : ∃ q, q = w.heap.size := ⟨_, rfl⟩
  rw [← hW] at HX HBl HC
  rw [← hq] at HC
  have HF := Lib.hid hf
  have HW := Lib.hid hW
  have Hq := Lib.hid hq
  have Cell := Lib.hid (fun w' (hb : Below W.heap.size W w') => (show w'.cell? ⟨q, 0, none⟩ = some x ∧ w'.cell? ⟨q, 1, none⟩ = some y ∧ Below W.heap.size W w' from ⟨(two (HC.out.below hb)).1, (two (HC.out.below hb)).2, hb⟩))
  have hb0 : Below W.heap.size W W.drew := (Below.refl _ _).drew
  have HE := Lib.hid (enters_of (P := Try.prog) Try.func70 (by kernel_rfl) rfl)
  have HQ : Hid (Gm.vld g = true → ∀ (w' : World) (a b : Nat), a < g.v.length → b < g.v.length → Below (W.drew.alloc (.cells #[x, y] 26)).heap.size (W.drew.alloc (.cells #[x, y] 26)) w' → Calls Try.prog 70 #[.int .i64 a, .int .i64 b, .pointer (some ⟨W.drew.heap.size, 0, none⟩)] w' fun e w'' => e = .returned (.bool (Pr.okM g a b)) ∧ Below w'.heap.size w' w'') := fun hv w' a b ha hb hB =>
    impl_monotone1 hv ((CellsAt.new W.drew #[x, y] 26).below hB) ((HX.out.up (hb0.alloc (Nat.le_refl _) _)).up hB) HF.out a b ha hb
  clear h hf hW hq hb
  go_enter Try.func26, Try.ntmps26
  go_upto_region 1 with fail
  rw [← Hq.out, ← HW.out]
  refine wp_region_T_drew (S := (fun w' => w'.cell? ⟨q, 0, none⟩ = some x ∧ w'.cell? ⟨q, 1, none⟩ = some y ∧ Below W.heap.size W w')) 4 (by kernel_rfl) ?_ (fun hHeld => ?_)
  · exact Cell.out _ hb0
  refine wpAnyT_take (i := 0) (oi := { dst := some 3, op := Op.load 26 (Operand.tmp 1), type := 26, pos := "l10_property.go:45", after := #[], guard := none }) (v := ?_) rfl (by kernel_rfl) (fun _ _ _ h => h) (Or.inl ⟨by rfl, ?_⟩) (by assumption) ?_
  rotate_left 1
  · intro w hSw; (try dsimp only at hSw); go_simp; try (with_reducible rfl)
  try simp only [Act.put, List.setIfInBounds_toArray, List.set_cons_zero, List.set_cons_succ]
  refine wpAnyT_take (i := 1) (oi := { dst := some 4, op := Op.load 26 (Operand.tmp 1), type := 26, pos := "l10_property.go:45", after := #[], guard := none }) (v := ?_) rfl (by kernel_rfl) (fun _ _ _ h => h) (Or.inl ⟨by rfl, ?_⟩) (by assumption) ?_
  rotate_left 1
  · intro w hSw; (try dsimp only at hSw); go_simp; try (with_reducible rfl)
  try simp only [Act.put, List.setIfInBounds_toArray, List.set_cons_zero, List.set_cons_succ]
  refine wpAnyT_ready (rs := [2]) (by kernel_rfl) (by simp) ?_
  refine (AllReadyT.cons (o := { dst := some 5, op := Op.call { callee := Callee.value (Operand.func 50), args := #[Operand.tmp 4], argTypes := #[26] }, type := 48, pos := "l10_property.go:45", after := #[{ on := 1, ground := Ground.data }], guard := none }) (rs := []) rfl (fun K hK => ?_) AllReadyT.nil)
  go_simp
  (refine (impl_monotone x y _).mono ?_; rintro e w1 ⟨rfl, rfl⟩; have hb1 := hb0.alloc (Nat.le_refl _) (.cells #[x, y] 26))
  refine hK.out _ _ ?_ (fun hHeld => ?_)
  · exact Cell.out _ hb1
  clear hK K
  try simp only [Act.put, List.setIfInBounds_toArray, List.set_cons_zero, List.set_cons_succ]
  refine wpAnyT_ready (rs := [3]) (by kernel_rfl) (by simp) ?_
  refine (AllReadyT.cons (o := { dst := some 6, op := Op.call { callee := Callee.value (Operand.func 47), args := #[Operand.tmp 3, Operand.tmp 5], argTypes := #[26, 48] }, type := 4, pos := "l10_property.go:45", after := #[{ on := 0, ground := Ground.data }, { on := 2, ground := Ground.data }, { on := 2, ground := Ground.chain }], guard := none }) (rs := []) rfl (fun K hK => ?_) AllReadyT.nil)
  go_simp
  (refine (impl_isFaultless Pr.okM b Hr.out 70 HE.out (HX.out.up hb1) HF.out HQ.out).mono ?_; rintro e w2 ⟨rfl, k⟩; have hb2 := hb1.trans (k.mono hb1.size))
  refine hK.out _ _ ?_ (fun hHeld => ?_)
  · exact Cell.out _ hb2
  clear hK K
  try simp only [Act.put, List.setIfInBounds_toArray, List.set_cons_zero, List.set_cons_succ]
  refine wpAnyT_ready (rs := [4]) (by kernel_rfl) (by simp) ?_
  refine (AllReadyT.last (o := { dst := some 2, op := Op.assign (Operand.tmp 6), type := 4, pos := "l10_property.go:45", after := #[{ on := 3, ground := Ground.data }, { on := 3, ground := Ground.chain }, { on := 0, ground := Ground.phase }, { on := 1, ground := Ground.phase }, { on := 2, ground := Ground.phase }, { on := 3, ground := Ground.phase }], guard := none }) (rs := []) rfl (by rfl) (fun K hK => ?_) AllReadyT.nil)
  go_simp
  refine hK.out _ _ ?_
  clear hK K
  try simp only [Act.put, List.setIfInBounds_toArray, List.set_cons_zero, List.set_cons_succ]
  refine wpAnyT_done (by kernel_rfl) ?_ _
  go_wp2_with fail
  go_ret
  exact ⟨rfl, HBl.out.trans (hb2.mono HBl.out.size)⟩
set_option maxRecDepth 100000 in
set_option maxHeartbeats 4000000 in
theorem impl_SuperadditiveFault {w : World} {x y : Value} {g : G} {A B : Int} {bad : Bool} (hF : Pr.fault Pr.okS g = (A, B, bad)) (h : GmC w x y g) (hf : GmOk g) :
    Calls Try.prog 24 #[.agg #[x, y]] w fun e w' => e = .returned (.tuple #[.int .i64 A, .int .i64 B, .bool bad]) ∧ Below w.heap.size w w' := by
  have HX := Lib.hid (gm_box h 26).1
  have HBl := Lib.hid (gm_box h 26).2
  have HC := Lib.hid (CellsAt.new w #[x, y] 26)
  have Hr := Lib.hid hF
  obtain ⟨W, hW⟩ : ∃ W, W = w.alloc (.cells #[x, y] 26) := ⟨_, rfl⟩
  obtain ⟨q, hq⟩ : ∃ q, q = w.heap.size := ⟨_, rfl⟩
  rw [← hW] at HX HBl HC
  rw [← hq] at HC
  have HF := Lib.hid hf
  have HW := Lib.hid hW
  have Hq := Lib.hid hq
  have Cell := Lib.hid (fun w' (hb : Below W.heap.size W w') => (show w'.cell? ⟨q, 0, none⟩ = some x ∧ w'.cell? ⟨q, 1, none⟩ = some y ∧ Below W.heap.size W w' from ⟨(two (HC.out.below hb)).1, (two (HC.out.below hb)).2, hb⟩))
  have hb0 : Below W.heap.size W W.drew := (Below.refl _ _).drew
  have HE := Lib.hid (enters_of (P := Try.prog) Try.func69 (by kernel_rfl) rfl)
  have HQ : Hid (Gm.vld g = true → ∀ (w' : World) (a b : Nat), a < g.v.length → b < g.v.length → Below (W.drew.alloc (.cells #[x, y] 26)).heap.size (W.drew.alloc (.cells #[x, y] 26)) w' → Calls Try.prog 69 #[.int .i64 a, .int .i64 b, .pointer (some ⟨W.drew.heap.size, 0, none⟩)] w' fun e w'' => e = .returned (.bool (Pr.okS g a b)) ∧ Below w'.heap.size w' w'') := fun hv w' a b ha hb hB =>
    impl_superadditive1 hv ((CellsAt.new W.drew #[x, y] 26).below hB) ((HX.out.up (hb0.alloc (Nat.le_refl _) _)).up hB) HF.out a b ha hb
  clear h hf hW hq hF
  go_enter Try.func24, Try.ntmps24
  go_upto_region 1 with fail
  rw [← Hq.out, ← HW.out]
  refine wp_region_T_drew (S := (fun w' => w'.cell? ⟨q, 0, none⟩ = some x ∧ w'.cell? ⟨q, 1, none⟩ = some y ∧ Below W.heap.size W w')) 7 (by kernel_rfl) ?_ (fun hHeld => ?_)
  · exact Cell.out _ hb0
  refine wpAnyT_take (i := 0) (oi := { dst := some 5, op := Op.load 26 (Operand.tmp 1), type := 26, pos := "l10_property.go:27", after := #[], guard := none }) (v := ?_) rfl (by kernel_rfl) (fun _ _ _ h => h) (Or.inl ⟨by rfl, ?_⟩) (by assumption) ?_
  rotate_left 1
  · intro w hSw; (try dsimp only at hSw); go_simp; try (with_reducible rfl)
  try simp only [Act.put, List.setIfInBounds_toArray, List.set_cons_zero, List.set_cons_succ]
  refine wpAnyT_take (i := 1) (oi := { dst := some 6, op := Op.load 26 (Operand.tmp 1), type := 26, pos := "l10_property.go:27", after := #[], guard := none }) (v := ?_) rfl (by kernel_rfl) (fun _ _ _ h => h) (Or.inl ⟨by rfl, ?_⟩) (by assumption) ?_
  rotate_left 1
  · intro w hSw; (try dsimp only at hSw); go_simp; try (with_reducible rfl)
  try simp only [Act.put, List.setIfInBounds_toArray, List.set_cons_zero, List.set_cons_succ]
  refine wpAnyT_ready (rs := [2]) (by kernel_rfl) (by simp) ?_
  refine (AllReadyT.cons (o := { dst := some 7, op := Op.call { callee := Callee.value (Operand.func 48), args := #[Operand.tmp 6], argTypes := #[26] }, type := 48, pos := "l10_property.go:27", after := #[{ on := 1, ground := Ground.data }], guard := none }) (rs := []) rfl (fun K hK => ?_) AllReadyT.nil)
  go_simp
  (refine (impl_superadditive x y _).mono ?_; rintro e w1 ⟨rfl, rfl⟩; have hb1 := hb0.alloc (Nat.le_refl _) (.cells #[x, y] 26))
  refine hK.out _ _ ?_ (fun hHeld => ?_)
  · exact Cell.out _ hb1
  clear hK K
  try simp only [Act.put, List.setIfInBounds_toArray, List.set_cons_zero, List.set_cons_succ]
  refine wpAnyT_ready (rs := [3]) (by kernel_rfl) (by simp) ?_
  refine (AllReadyT.cons (o := { dst := some 8, op := Op.call { callee := Callee.value (Operand.func 44), args := #[Operand.tmp 5, Operand.tmp 7], argTypes := #[26, 48] }, type := 28, pos := "l10_property.go:27", after := #[{ on := 0, ground := Ground.data }, { on := 2, ground := Ground.data }, { on := 2, ground := Ground.chain }], guard := none }) (rs := []) rfl (fun K hK => ?_) AllReadyT.nil)
  go_simp
  (refine (impl_firstFault Pr.okS Hr.out 69 HE.out (HX.out.up hb1) HF.out HQ.out).mono ?_; rintro e w2 ⟨rfl, k⟩; have hb2 := hb1.trans (k.mono hb1.size))
  refine hK.out _ _ ?_ (fun hHeld => ?_)
  · exact Cell.out _ hb2
  clear hK K
  try simp only [Act.put, List.setIfInBounds_toArray, List.set_cons_zero, List.set_cons_succ]
  refine wpAnyT_take (i := 4) (oi := { dst := some 9, op := Op.extract (Operand.tmp 8) 0, type := 3, pos := "l10_property.go:27", after := #[{ on := 3, ground := Ground.data }], guard := none }) (v := ?_) rfl (by kernel_rfl) (fun _ _ _ h => h) (Or.inl ⟨by rfl, ?_⟩) (by assumption) ?_
  rotate_left 1
  · intro w hSw; (try dsimp only at hSw); go_simp; try (with_reducible rfl)
  try simp only [Act.put, List.setIfInBounds_toArray, List.set_cons_zero, List.set_cons_succ]
  refine wpAnyT_take (i := 5) (oi := { dst := some 10, op := Op.extract (Operand.tmp 8) 1, type := 3, pos := "l10_property.go:27", after := #[{ on := 3, ground := Ground.data }], guard := none }) (v := ?_) rfl (by kernel_rfl) (fun _ _ _ h => h) (Or.inl ⟨by rfl, ?_⟩) (by assumption) ?_
  rotate_left 1
  · intro w hSw; (try dsimp only at hSw); go_simp; try (with_reducible rfl)
  try simp only [Act.put, List.setIfInBounds_toArray, List.set_cons_zero, List.set_cons_succ]
  refine wpAnyT_take (i := 6) (oi := { dst := some 11, op := Op.extract (Operand.tmp 8) 2, type := 4, pos := "l10_property.go:27", after := #[{ on := 3, ground := Ground.data }], guard := none }) (v := ?_) rfl (by kernel_rfl) (fun _ _ _ h => h) (Or.inl ⟨by rfl, ?_⟩) (by assumption) ?_
  rotate_left 1
  · intro w hSw; (try dsimp only at hSw); go_simp; try (with_reducible rfl)
  try simp only [Act.put, List.setIfInBounds_toArray, List.set_cons_zero, List.set_cons_succ]
  refine wpAnyT_ready (rs := [7]) (by kernel_rfl) (by simp) ?_
  refine (AllReadyT.last (o := { dst := some 2, op := Op.assign (Operand.tmp 9), type := 3, pos := "l10_property.go:27", after := #[{ on := 4, ground := Ground.data }, { on := 3, ground := Ground.chain }, { on := 0, ground := Ground.phase }, { on := 1, ground := Ground.phase }, { on := 2, ground := Ground.phase }, { on := 3, ground := Ground.phase }, { on := 4, ground := Ground.phase }, { on := 5, ground := Ground.phase }, { on := 6, ground := Ground.phase }], guard := none }) (rs := []) rfl (by rfl) (fun K hK => ?_) AllReadyT.nil)
  go_simp
  refine hK.out _ _ ?_
  clear hK K
  try simp only [Act.put, List.setIfInBounds_toArray, List.set_cons_zero, List.set_cons_succ]
  refine wpAnyT_ready (rs := [8]) (by kernel_rfl) (by simp) ?_
  refine (AllReadyT.last (o := { dst := some 3, op := Op.assign (Operand.tmp 10), type := 3, pos := "l10_property.go:27", after := #[{ on := 5, ground := Ground.data }, { on := 7, ground := Ground.chain }, { on := 0, ground := Ground.phase }, { on := 1, ground := Ground.phase }, { on := 2, ground := Ground.phase }, { on := 3, ground := Ground.phase }, { on := 4, ground := Ground.phase }, { on := 5, ground := Ground.phase }, { on := 6, ground := Ground.phase }, { on := 7, ground := Ground.phase }], guard := none }) (rs := []) rfl (by rfl) (fun K hK => ?_) AllReadyT.nil)
  go_simp
  refine hK.out _ _ ?_
  clear hK K
  try simp only [Act.put, List.setIfInBounds_toArray, List.set_cons_zero, List.set_cons_succ]
  refine wpAnyT_ready (rs := [9]) (by kernel_rfl) (by simp) ?_
  refine (AllReadyT.last (o := { dst := some 4, op := Op.assign (Operand.tmp 11), type := 4, pos := "l10_property.go:27", after := #[{ on := 6, ground := Ground.data }, { on := 8, ground := Ground.chain }, { on := 0, ground := Ground.phase }, { on := 1, ground := Ground.phase }, { on := 2, ground := Ground.phase }, { on := 3, ground := Ground.phase }, { on := 4, ground := Ground.phase }, { on := 5, ground := Ground.phase }, { on := 6, ground := Ground.phase }, { on := 7, ground := Ground.phase }, { on := 8, ground := Ground.phase }], guard := none }) (rs := []) rfl (by rfl) (fun K hK => ?_) AllReadyT.nil)
  go_simp
  refine hK.out _ _ ?_
  clear hK K
  try simp only [Act.put, List.setIfInBounds_toArray, List.set_cons_zero, List.set_cons_succ]
  refine wpAnyT_done (by kernel_rfl) ?_ _
  go_wp2_with fail
  go_ret3
  exact ⟨rfl, HBl.out.trans (hb2.mono HBl.out.size)⟩
set_option maxRecDepth 100000 in
set_option maxHeartbeats 4000000 in
theorem impl_IsSuperadditive {w : World} {x y : Value} {g : G} (b : Bool) (hb : Pr.has Pr.okS g = b) (h : GmC w x y g) (hf : GmOk g) :
    Calls Try.prog 17 #[.agg #[x, y]] w fun e w' => e = .returned (.bool b) ∧ Below w.heap.size w w' := by
  have HX := Lib.hid (gm_box h 26).1
  have HBl := Lib.hid (gm_box h 26).2
  have HC := Lib.hid (CellsAt.new w #[x, y] 26)
  have Hr := Lib.hid hb
  obtain ⟨W, hW⟩ : ∃ W, W = w.alloc (.cells #[x, y] 26) := ⟨_, rfl⟩
  obtain ⟨q, hq⟩ : ∃ q, q = w.heap.size := ⟨_, rfl⟩
  rw [← hW] at HX HBl HC
  rw [← hq] at HC
  have HF := Lib.hid hf
  have HW := Lib.hid hW
  have Hq := Lib.hid hq
  have Cell := Lib.hid (fun w' (hb : Below W.heap.size W w') => (show w'.cell? ⟨q, 0, none⟩ = some x ∧ w'.cell? ⟨q, 1, none⟩ = some y ∧ Below W.heap.size W w' from ⟨(two (HC.out.below hb)).1, (two (HC.out.below hb)).2, hb⟩))
  have hb0 : Below W.heap.size W W.drew := (Below.refl _ _).drew
  have HE := Lib.hid (enters_of (P := Try.prog) Try.func69 (by kernel_rfl) rfl)
  have HQ : Hid (Gm.vld g = true → ∀ (w' : World) (a b : Nat), a < g.v.length → b < g.v.length → Below (W.drew.alloc (.cells #[x, y] 26)).heap.size (W.drew.alloc (.cells #[x, y] 26)) w' → Calls Try.prog 69 #[.int .i64 a, .int .i64 b, .pointer (some ⟨W.drew.heap.size, 0, none⟩)] w' fun e w'' => e = .returned (.bool (Pr.okS g a b)) ∧ Below w'.heap.size w' w'') := fun hv w' a b ha hb hB =>
    impl_superadditive1 hv ((CellsAt.new W.drew #[x, y] 26).below hB) ((HX.out.up (hb0.alloc (Nat.le_refl _) _)).up hB) HF.out a b ha hb
  clear h hf hW hq hb
  go_enter Try.func17, Try.ntmps17
  go_upto_region 1 with fail
  rw [← Hq.out, ← HW.out]
  refine wp_region_T_drew (S := (fun w' => w'.cell? ⟨q, 0, none⟩ = some x ∧ w'.cell? ⟨q, 1, none⟩ = some y ∧ Below W.heap.size W w')) 4 (by kernel_rfl) ?_ (fun hHeld => ?_)
  · exact Cell.out _ hb0
  refine wpAnyT_take (i := 0) (oi := { dst := some 3, op := Op.load 26 (Operand.tmp 1), type := 26, pos := "l10_property.go:47", after := #[], guard := none }) (v := ?_) rfl (by kernel_rfl) (fun _ _ _ h => h) (Or.inl ⟨by rfl, ?_⟩) (by assumption) ?_
  rotate_left 1
  · intro w hSw; (try dsimp only at hSw); go_simp; try (with_reducible rfl)
  try simp only [Act.put, List.setIfInBounds_toArray, List.set_cons_zero, List.set_cons_succ]
  refine wpAnyT_take (i := 1) (oi := { dst := some 4, op := Op.load 26 (Operand.tmp 1), type := 26, pos := "l10_property.go:47", after := #[], guard := none }) (v := ?_) rfl (by kernel_rfl) (fun _ _ _ h => h) (Or.inl ⟨by rfl, ?_⟩) (by assumption) ?_
  rotate_left 1
  · intro w hSw; (try dsimp only at hSw); go_simp; try (with_reducible rfl)
  try simp only [Act.put, List.setIfInBounds_toArray, List.set_cons_zero, List.set_cons_succ]
  refine wpAnyT_ready (rs := [2]) (by kernel_rfl) (by simp) ?_
  refine (AllReadyT.cons (o := { dst := some 5, op := Op.call { callee := Callee.value (Operand.func 48), args := #[Operand.tmp 4], argTypes := #[26] }, type := 48, pos := "l10_property.go:47", after := #[{ on := 1, ground := Ground.data }], guard := none }) (rs := []) rfl (fun K hK => ?_) AllReadyT.nil)
  go_simp
  (refine (impl_superadditive x y _).mono ?_; rintro e w1 ⟨rfl, rfl⟩; have hb1 := hb0.alloc (Nat.le_refl _) (.cells #[x, y] 26))
  refine hK.out _ _ ?_ (fun hHeld => ?_)
  · exact Cell.out _ hb1
  clear hK K
  try simp only [Act.put, List.setIfInBounds_toArray, List.set_cons_zero, List.set_cons_succ]
  refine wpAnyT_ready (rs := [3]) (by kernel_rfl) (by simp) ?_
  refine (AllReadyT.cons (o := { dst := some 6, op := Op.call { callee := Callee.value (Operand.func 47), args := #[Operand.tmp 3, Operand.tmp 5], argTypes := #[26, 48] }, type := 4, pos := "l10_property.go:47", after := #[{ on := 0, ground := Ground.data }, { on := 2, ground := Ground.data }, { on := 2, ground := Ground.chain }], guard := none }) (rs := []) rfl (fun K hK => ?_) AllReadyT.nil)
  go_simp
  (refine (impl_isFaultless Pr.okS b Hr.out 69 HE.out (HX.out.up hb1) HF.out HQ.out).mono ?_; rintro e w2 ⟨rfl, k⟩; have hb2 := hb1.trans (k.mono hb1.size))
  refine hK.out _ _ ?_ (fun hHeld => ?_)
  · exact Cell.out _ hb2
  clear hK K
  try simp only [Act.put, List.setIfInBounds_toArray, List.set_cons_zero, List.set_cons_succ]
  refine wpAnyT_ready (rs := [4]) (by kernel_rfl) (by simp) ?_
  refine (AllReadyT.last (o := { dst := some 2, op := Op.assign (Operand.tmp 6), type := 4, pos := "l10_property.go:47", after := #[{ on := 3, ground := Ground.data }, { on := 3, ground := Ground.chain }, { on := 0, ground := Ground.phase }, { on := 1, ground := Ground.phase }, { on := 2, ground := Ground.phase }, { on := 3, ground := Ground.phase }], guard := none }) (rs := []) rfl (by rfl) (fun K hK => ?_) AllReadyT.nil)
  go_simp
  refine hK.out _ _ ?_
  clear hK K
  try simp only [Act.put, List.setIfInBounds_toArray, List.set_cons_zero, List.set_cons_succ]
  refine wpAnyT_done (by kernel_rfl) ?_ _
  go_wp2_with fail
  go_ret
  exact ⟨rfl, HBl.out.trans (hb2.mono HBl.out.size)⟩
set_option maxRecDepth 100000 in
set_option maxHeartbeats 4000000 in
theorem impl_ConvexFault {w : World} {x y : Value} {g : G} {A B : Int} {bad : Bool} (hF : Pr.fault Pr.okC g = (A, B, bad)) (h : GmC w x y g) (hf : GmOk g) :
    Calls Try.prog 14 #[.agg #[x, y]] w fun e w' => e = .returned (.tuple #[.int .i64 A, .int .i64 B, .bool bad]) ∧ Below w.heap.size w w' := by
  have HX := Lib.hid (gm_box h 26).1
  have HBl := Lib.hid (gm_box h 26).2
  have HC := Lib.hid (CellsAt.new w #[x, y] 26)
  have Hr := Lib.hid hF
  obtain ⟨W, hW⟩ : ∃ W, W = w.alloc (.cells #[x, y] 26) := ⟨_, rfl⟩
  obtain ⟨q, hq⟩ : ∃ q, q = w.heap.size := ⟨_, rfl⟩
  rw [← hW] at HX HBl HC
  rw [← hq] at HC
  have HF := Lib.hid hf
  have HW := Lib.hid hW
  have Hq := Lib.hid hq
  have Cell := Lib.hid (fun w' (hb : Below W.heap.size W w') => (show w'.cell? ⟨q, 0, none⟩ = some x ∧ w'.cell? ⟨q, 1, none⟩ = some y ∧ Below W.heap.size W w' from ⟨(two (HC.out.below hb)).1, (two (HC.out.below hb)).2, hb⟩))
  have hb0 : Below W.heap.size W W.drew := (Below.refl _ _).drew
  have HE := Lib.hid (enters_of (P := Try.prog) Try.func65 (by kernel_rfl) rfl)
  have HQ : Hid (Gm.vld g = true → ∀ (w' : World) (a b : Nat), a < g.v.length → b < g.v.length → Below (W.drew.alloc (.cells #[x, y] 26)).heap.size (W.drew.alloc (.cells #[x, y] 26)) w' → Calls Try.prog 65 #[.int .i64 a, .int .i64 b, .pointer (some ⟨W.drew.heap.size, 0, none⟩)] w' fun e w'' => e = .returned (.bool (Pr.okC g a b)) ∧ Below w'.heap.size w' w'') := fun hv w' a b ha hb hB =>
    impl_convex1 hv ((CellsAt.new W.drew #[x, y] 26).below hB) ((HX.out.up (hb0.alloc (Nat.le_refl _) _)).up hB) HF.out a b ha hb
  clear h hf hW hq hF
  go_enter Try.func14, Try.ntmps14
  go_upto_region 1 with fail
  rw [← Hq.out, ← HW.out]
  refine wp_region_T_drew (S := (fun w' => w'.cell? ⟨q, 0, none⟩ = some x ∧ w'.cell? ⟨q, 1, none⟩ = some y ∧ Below W.heap.size W w')) 7 (by kernel_rfl) ?_ (fun hHeld => ?_)
  · exact Cell.out _ hb0
  refine wpAnyT_take (i := 0) (oi := { dst := some 5, op := Op.load 26 (Operand.tmp 1), type := 26, pos := "l10_property.go:29", after := #[], guard := none }) (v := ?_) rfl (by kernel_rfl) (fun _ _ _ h => h) (Or.inl ⟨by rfl, ?_⟩) (by assumption) ?_
  rotate_left 1
  · intro w hSw; (try dsimp only at hSw); go_simp; try (with_reducible rfl)
  try simp only [Act.put, List.setIfInBounds_toArray, List.set_cons_zero, List.set_cons_succ]
  refine wpAnyT_take (i := 1) (oi := { dst := some 6, op := Op.load 26 (Operand.tmp 1), type := 26, pos := "l10_property.go:29", after := #[], guard := none }) (v := ?_) rfl (by kernel_rfl) (fun _ _ _ h => h) (Or.inl ⟨by rfl, ?_⟩) (by assumption) ?_
  rotate_left 1
  · intro w hSw; (try dsimp only at hSw); go_simp; try (with_reducible rfl)
  try simp only [Act.put, List.setIfInBounds_toArray, List.set_cons_zero, List.set_cons_succ]
  refine wpAnyT_ready (rs := [2]) (by kernel_rfl) (by simp) ?_
  refine (AllReadyT.cons (o := { dst := some 7, op := Op.call { callee := Callee.value (Operand.func 45), args := #[Operand.tmp 6], argTypes := #[26] }, type := 48, pos := "l10_property.go:29", after := #[{ on := 1, ground := Ground.data }], guard := none }) (rs := []) rfl (fun K hK => ?_) AllReadyT.nil)
  go_simp
  (refine (impl_convex x y _).mono ?_; rintro e w1 ⟨rfl, rfl⟩; have hb1 := hb0.alloc (Nat.le_refl _) (.cells #[x, y] 26))
  refine hK.out _ _ ?_ (fun hHeld => ?_)
  · exact Cell.out _ hb1
  clear hK K
  try simp only [Act.put, List.setIfInBounds_toArray, List.set_cons_zero, List.set_cons_succ]
  refine wpAnyT_ready (rs := [3]) (by kernel_rfl) (by simp) ?_
  refine (AllReadyT.cons (o := { dst := some 8, op := Op.call { callee := Callee.value (Operand.func 44), args := #[Operand.tmp 5, Operand.tmp 7], argTypes := #[26, 48] }, type := 28, pos := "l10_property.go:29", after := #[{ on := 0, ground := Ground.data }, { on := 2, ground := Ground.data }, { on := 2, ground := Ground.chain }], guard := none }) (rs := []) rfl (fun K hK => ?_) AllReadyT.nil)
  go_simp
  (refine (impl_firstFault Pr.okC Hr.out 65 HE.out (HX.out.up hb1) HF.out HQ.out).mono ?_; rintro e w2 ⟨rfl, k⟩; have hb2 := hb1.trans (k.mono hb1.size))
  refine hK.out _ _ ?_ (fun hHeld => ?_)
  · exact Cell.out _ hb2
  clear hK K
  try simp only [Act.put, List.setIfInBounds_toArray, List.set_cons_zero, List.set_cons_succ]
  refine wpAnyT_take (i := 4) (oi := { dst := some 9, op := Op.extract (Operand.tmp 8) 0, type := 3, pos := "l10_property.go:29", after := #[{ on := 3, ground := Ground.data }], guard := none }) (v := ?_) rfl (by kernel_rfl) (fun _ _ _ h => h) (Or.inl ⟨by rfl, ?_⟩) (by assumption) ?_
  rotate_left 1
  · intro w hSw; (try dsimp only at hSw); go_simp; try (with_reducible rfl)
  try simp only [Act.put, List.setIfInBounds_toArray, List.set_cons_zero, List.set_cons_succ]
  refine wpAnyT_take (i := 5) (oi := { dst := some 10, op := Op.extract (Operand.tmp 8) 1, type := 3, pos := "l10_property.go:29", after := #[{ on := 3, ground := Ground.data }], guard := none }) (v := ?_) rfl (by kernel_rfl) (fun _ _ _ h => h) (Or.inl ⟨by rfl, ?_⟩) (by assumption) ?_
  rotate_left 1
  · intro w hSw; (try dsimp only at hSw); go_simp; try (with_reducible rfl)
  try simp only [Act.put, List.setIfInBounds_toArray, List.set_cons_zero, List.set_cons_succ]
  refine wpAnyT_take (i := 6) (oi := { dst := some 11, op := Op.extract (Operand.tmp 8) 2, type := 4, pos := "l10_property.go:29", after := #[{ on := 3, ground := Ground.data }], guard := none }) (v := ?_) rfl (by kernel_rfl) (fun _ _ _ h => h) (Or.inl ⟨by rfl, ?_⟩) (by assumption) ?_
  rotate_left 1
  · intro w hSw; (try dsimp only at hSw); go_simp; try (with_reducible rfl)
  try simp only [Act.put, List.setIfInBounds_toArray, List.set_cons_zero, List.set_cons_succ]
  refine wpAnyT_ready (rs := [7]) (by kernel_rfl) (by simp) ?_
  refine (AllReadyT.last (o := { dst := some 2, op := Op.assign (Operand.tmp 9), type := 3, pos := "l10_property.go:29", after := #[{ on := 4, ground := Ground.data }, { on := 3, ground := Ground.chain }, { on := 0, ground := Ground.phase }, { on := 1, ground := Ground.phase }, { on := 2, ground := Ground.phase }, { on := 3, ground := Ground.phase }, { on := 4, ground := Ground.phase }, { on := 5, ground := Ground.phase }, { on := 6, ground := Ground.phase }], guard := none }) (rs := []) rfl (by rfl) (fun K hK => ?_) AllReadyT.nil)
  go_simp
  refine hK.out _ _ ?_
  clear hK K
  try simp only [Act.put, List.setIfInBounds_toArray, List.set_cons_zero, List.set_cons_succ]
  refine wpAnyT_ready (rs := [8]) (by kernel_rfl) (by simp) ?_
  refine (AllReadyT.last (o := { dst := some 3, op := Op.assign (Operand.tmp 10), type := 3, pos := "l10_property.go:29", after := #[{ on := 5, ground := Ground.data }, { on := 7, ground := Ground.chain }, { on := 0, ground := Ground.phase }, { on := 1, ground := Ground.phase }, { on := 2, ground := Ground.phase }, { on := 3, ground := Ground.phase }, { on := 4, ground := Ground.phase }, { on := 5, ground := Ground.phase }, { on := 6, ground := Ground.phase }, { on := 7, ground := Ground.phase }], guard := none }) (rs := []) rfl (by rfl) (fun K hK => ?_) AllReadyT.nil)
  go_simp
  refine hK.out _ _ ?_
  clear hK K
  try simp only [Act.put, List.setIfInBounds_toArray, List.set_cons_zero, List.set_cons_succ]
  refine wpAnyT_ready (rs := [9]) (by kernel_rfl) (by simp) ?_
  refine (AllReadyT.last (o := { dst := some 4, op := Op.assign (Operand.tmp 11), type := 4, pos := "l10_property.go:29", after := #[{ on := 6, ground := Ground.data }, { on := 8, ground := Ground.chain }, { on := 0, ground := Ground.phase }, { on := 1, ground := Ground.phase }, { on := 2, ground := Ground.phase }, { on := 3, ground := Ground.phase }, { on := 4, ground := Ground.phase }, { on := 5, ground := Ground.phase }, { on := 6, ground := Ground.phase }, { on := 7, ground := Ground.phase }, { on := 8, ground := Ground.phase }], guard := none }) (rs := []) rfl (by rfl) (fun K hK => ?_) AllReadyT.nil)
  go_simp
  refine hK.out _ _ ?_
  clear hK K
  try simp only [Act.put, List.setIfInBounds_toArray, List.set_cons_zero, List.set_cons_succ]
  refine wpAnyT_done (by kernel_rfl) ?_ _
  go_wp2_with fail
  go_ret3
  exact ⟨rfl, HBl.out.trans (hb2.mono HBl.out.size)⟩
set_option maxRecDepth 100000 in
set_option maxHeartbeats 4000000 in
theorem impl_IsConvex {w : World} {x y : Value} {g : G} (b : Bool) (hb : Pr.has Pr.okC g = b) (h : GmC w x y g) (hf : GmOk g) :
    Calls Try.prog 16 #[.agg #[x, y]] w fun e w' => e = .returned (.bool b) ∧ Below w.heap.size w w' := by
  have HX := Lib.hid (gm_box h 26).1
  have HBl := Lib.hid (gm_box h 26).2
  have HC := Lib.hid (CellsAt.new w #[x, y] 26)
  have Hr := Lib.hid hb
  obtain ⟨W, hW⟩ : ∃ W, W = w.alloc (.cells #[x, y] 26) := ⟨_, rfl⟩
  obtain ⟨q, hq⟩ : ∃ q, q = w.heap.size := ⟨_, rfl⟩
  rw [← hW] at HX HBl HC
  rw [← hq] at HC
  have HF := Lib.hid hf
  have HW := Lib.hid hW
  have Hq := Lib.hid hq
  have Cell := Lib.hid (fun w' (hb : Below W.heap.size W w') => (show w'.cell? ⟨q, 0, none⟩ = some x ∧ w'.cell? ⟨q, 1, none⟩ = some y ∧ Below W.heap.size W w' from ⟨(two (HC.out.below hb)).1, (two (HC.out.below hb)).2, hb⟩))
  have hb0 : Below W.heap.size W W.drew := (Below.refl _ _).drew
  have HE := Lib.hid (enters_of (P := Try.prog) Try.func65 (by kernel_rfl) rfl)
  have HQ : Hid (Gm.vld g = true → ∀ (w' : World) (a b : Nat), a < g.v.length → b < g.v.length → Below (W.drew.alloc (.cells #[x, y] 26)).heap.size (W.drew.alloc (.cells #[x, y] 26)) w' → Calls Try.prog 65 #[.int .i64 a, .int .i64 b, .pointer (some ⟨W.drew.heap.size, 0, none⟩)] w' fun e w'' => e = .returned (.bool (Pr.okC g a b)) ∧ Below w'.heap.size w' w'') := fun hv w' a b ha hb hB =>
    impl_convex1 hv ((CellsAt.new W.drew #[x, y] 26).below hB) ((HX.out.up (hb0.alloc (Nat.le_refl _) _)).up hB) HF.out a b ha hb
  clear h hf hW hq hb
  go_enter Try.func16, Try.ntmps16
  go_upto_region 1 with fail
  rw [← Hq.out, ← HW.out]
  refine wp_region_T_drew (S := (fun w' => w'.cell? ⟨q, 0, none⟩ = some x ∧ w'.cell? ⟨q, 1, none⟩ = some y ∧ Below W.heap.size W w')) 4 (by kernel_rfl) ?_ (fun hHeld => ?_)
  · exact Cell.out _ hb0
  refine wpAnyT_take (i := 0) (oi := { dst := some 3, op := Op.load 26 (Operand.tmp 1), type := 26, pos := "l10_property.go:49", after := #[], guard := none }) (v := ?_) rfl (by kernel_rfl) (fun _ _ _ h => h) (Or.inl ⟨by rfl, ?_⟩) (by assumption) ?_
  rotate_left 1
  · intro w hSw; (try dsimp only at hSw); go_simp; try (with_reducible rfl)
  try simp only [Act.put, List.setIfInBounds_toArray, List.set_cons_zero, List.set_cons_succ]
  refine wpAnyT_take (i := 1) (oi := { dst := some 4, op := Op.load 26 (Operand.tmp 1), type := 26, pos := "l10_property.go:49", after := #[], guard := none }) (v := ?_) rfl (by kernel_rfl) (fun _ _ _ h => h) (Or.inl ⟨by rfl, ?_⟩) (by assumption) ?_
  rotate_left 1
  · intro w hSw; (try dsimp only at hSw); go_simp; try (with_reducible rfl)
  try simp only [Act.put, List.setIfInBounds_toArray, List.set_cons_zero, List.set_cons_succ]
  refine wpAnyT_ready (rs := [2]) (by kernel_rfl) (by simp) ?_
  refine (AllReadyT.cons (o := { dst := some 5, op := Op.call { callee := Callee.value (Operand.func 45), args := #[Operand.tmp 4], argTypes := #[26] }, type := 48, pos := "l10_property.go:49", after := #[{ on := 1, ground := Ground.data }], guard := none }) (rs := []) rfl (fun K hK => ?_) AllReadyT.nil)
  go_simp
  (refine (impl_convex x y _).mono ?_; rintro e w1 ⟨rfl, rfl⟩; have hb1 := hb0.alloc (Nat.le_refl _) (.cells #[x, y] 26))
  refine hK.out _ _ ?_ (fun hHeld => ?_)
  · exact Cell.out _ hb1
  clear hK K
  try simp only [Act.put, List.setIfInBounds_toArray, List.set_cons_zero, List.set_cons_succ]
  refine wpAnyT_ready (rs := [3]) (by kernel_rfl) (by simp) ?_
  refine (AllReadyT.cons (o := { dst := some 6, op := Op.call { callee := Callee.value (Operand.func 47), args := #[Operand.tmp 3, Operand.tmp 5], argTypes := #[26, 48] }, type := 4, pos := "l10_property.go:49", after := #[{ on := 0, ground := Ground.data }, { on := 2, ground := Ground.data }, { on := 2, ground := Ground.chain }], guard := none }) (rs := []) rfl (fun K hK => ?_) AllReadyT.nil)
  go_simp
  (refine (impl_isFaultless Pr.okC b Hr.out 65 HE.out (HX.out.up hb1) HF.out HQ.out).mono ?_; rintro e w2 ⟨rfl, k⟩; have hb2 := hb1.trans (k.mono hb1.size))
  refine hK.out _ _ ?_ (fun hHeld => ?_)
  · exact Cell.out _ hb2
  clear hK K
  try simp only [Act.put, List.setIfInBounds_toArray, List.set_cons_zero, List.set_cons_succ]
  refine wpAnyT_ready (rs := [4]) (by kernel_rfl) (by simp) ?_
  refine (AllReadyT.last (o := { dst := some 2, op := Op.assign (Operand.tmp 6), type := 4, pos := "l10_property.go:49", after := #[{ on := 3, ground := Ground.data }, { on := 3, ground := Ground.chain }, { on := 0, ground := Ground.phase }, { on := 1, ground := Ground.phase }, { on := 2, ground := Ground.phase }, { on := 3, ground := Ground.phase }], guard := none }) (rs := []) rfl (by rfl) (fun K hK => ?_) AllReadyT.nil)
  go_simp
  refine hK.out _ _ ?_
  clear hK K
  try simp only [Act.put, List.setIfInBounds_toArray, List.set_cons_zero, List.set_cons_succ]
  refine wpAnyT_done (by kernel_rfl) ?_ _
  go_wp2_with fail
  go_ret
  exact ⟨rfl, HBl.out.trans (hb2.mono HBl.out.size)⟩
end Go.Proofs.Ytodjapljoimkgaa
