/- impl: isPlayerOf, AreSymmetric. -/
import Derived.Test.YtodjapljoimkgaaPrE
namespace Go.Proofs.Ytodjapljoimkgaa
open Go.RowKit
open Gm (G)
set_option maxRecDepth 100000 in
set_option maxHeartbeats 1000000 in
theorem impl_isPlayerOf (n : Int) (y : Value) (k : Int) (b : Bool) (hb : decide (0 ≤ k ∧ k < n) = b) (w : World) :
    Calls Try.prog 60 #[.agg #[.int .i64 n, y], .int .i64 k] w fun e w' => e = .returned (.bool b) ∧ Below w.heap.size w w' := by
  have HB := Lib.hid ((Below.refl w.heap.size w).alloc (Nat.le_refl _) (.cells #[.int .i64 n, y] 26))
  by_cases h0 : 0 ≤ k
  · have d0 : decide (k ≥ 0) = true := decide_eq_true h0
    have Hr : Hid (decide (k < n) = b) := by
      show _ = _
      rw [← hb, Bool.eq_iff_iff, decide_eq_true_iff, decide_eq_true_iff]
      exact ⟨fun h => ⟨h0, h⟩, fun h => h.2⟩
    clear hb
    go_enter Try.func60, Try.ntmps60
    go_wp2_with fail
    go_ret
    exact ⟨ret_bool Hr.out, HB.out⟩
  · have d0 : decide (k ≥ 0) = false := decide_eq_false (by omega)
    have Hr : Hid (false = b) := by
      show _ = _
      rw [← hb, eq_comm, decide_eq_false_iff_not]
      omega
    clear hb
    go_enter Try.func60, Try.ntmps60
    go_wp2_with fail
    go_ret
    exact ⟨ret_bool Hr.out, HB.out⟩
set_option maxRecDepth 100000 in
set_option maxHeartbeats 4000000 in
theorem impl_AreSymmetric {w : World} {x y : Value} {g : G} (i j : Int) (r : Bool) (hr : Pr.symR g i j = r) (h : GmC w x y g) (hf : GmOk g) :
    Calls Try.prog 41 #[.agg #[x, y], .int .i64 i, .int .i64 j] w fun e w' => e = .returned (.bool r) ∧ Below w.heap.size w w' := by
  have HX := Lib.hid (gm_box h 26).1
  have HBl := Lib.hid (gm_box h 26).2
  have HC := Lib.hid (CellsAt.new w #[x, y] 26)
  obtain ⟨W, hW⟩ : ∃ W, W = w.alloc (.cells #[x, y] 26) := ⟨_, rfl⟩
  rw [← hW] at HX HBl HC
  have HF := Lib.hid hf
  have HW := Lib.hid hW
  have hle : w.heap.size ≤ W.heap.size := HBl.out.size
  have HR := Lib.hid hr
  clear h hW hr
  rcases hv : Gm.vld g with _ | _
  · have HV := Lib.hid hv
    have Hr := Lib.hid ((symR_bad hv).symm.trans HR.out)
    obtain ⟨m0, m1⟩ := two HC.out
    clear hv HR
    go_enter Try.func41, Try.ntmps41
    go_wp2_with fail
    rw [← HW.out]
    clear HW
    refine (impl_IsValidGame false HV.out HX.out HF.out).mono ?_
    rintro e w1 ⟨rfl, k⟩
    have HB2 := Lib.hid (HBl.out.trans (k.mono HBl.out.size))
    clear k m0 m1
    go_wp2_with fail
    go_ret
    exact ⟨ret_bool Hr.out, HB2.out⟩
  · have HV := Lib.hid hv
    have hn5 := Gm.vld_n hv
    have hl := Gm.vld_len hv
    have HVal := Lib.hid (fun (s : Nat) (hs : s < g.v.length) (W' : World) (hb : Below W.heap.size W W') => (show Calls Try.prog 18 #[.agg #[x, y], .int .i64 s] W' fun e w' => e = .returned (.int .i64 (g.v.getD s 0)) ∧ Below W'.heap.size W' w' from Gm.val_in hs ▸ impl_ValueOf (s : Int) (HX.out.up hb) hf))
    have HUn := Lib.hid (fun (s k : Nat) (hs : s < g.v.length) (hk5 : k < 5) (W' : World) => (impl_Union (s : Int) (2 ^ k) (Pr.good_at hv hs) (two_good hk5) W').mono fun _ w' h => (show _ ∧ w' = W' from ⟨h.1, h.2.symm⟩))
    have HMo := Lib.hid (fun (s k : Nat) (hs : s < g.v.length) (hk : (k : Int) < g.n) hh => more_at hv (s := s) (k := k) hs hk hh)
    have HYes := Lib.hid (fun (p q : Nat) => Pr.sym_yes (g := g) (i := p) (j := q))
    have HNo := Lib.hid (fun (p q s : Nat) => Pr.sym_no (g := g) (i := p) (j := q) (s := s))
    have HSR := Lib.hid (fun (p q : Nat) => symR_in (i := p) (j := q) hv)
    have HSi := Lib.hid (fun h => symR_i (g := g) (i := i) (j := j) h)
    have HSj := Lib.hid (fun h => symR_j (g := g) (i := i) (j := j) h)
    have hx0 := HX.out
    obtain ⟨a, c, rfl, rfl, _⟩ := hx0
    obtain ⟨N, hN⟩ : ∃ N, g.v.length = N := ⟨_, rfl⟩
    obtain ⟨K, hK⟩ : ∃ K, g.n = K := ⟨_, rfl⟩
    have HX1 : Hid (GmC W (.int .i64 K) (.slice a N c) g) := by rw [← hN, ← hK]; exact HX.out
    rw [hN] at hl HVal HUn HC HW HMo HYes HNo
    rw [hK] at hn5 HVal HC HW HMo HSR HSi HSj
    rw [hN, hK]
    replace HX := HX1
    obtain ⟨m0, m1⟩ := two HC.out
    have Cell := Lib.hid (fun w' (hb : Below W.heap.size W w') => (show w'.cell? ⟨w.heap.size, 0, none⟩ = some (.int .i64 K) ∧ w'.cell? ⟨w.heap.size, 1, none⟩ = some (.slice a N c) ∧ Below W.heap.size W w' from ⟨(two (HC.out.below hb)).1, (two (HC.out.below hb)).2, hb⟩))
    clear hv hN HX1 hK hf
    by_cases hi2 : 0 ≤ i ∧ i < K
    · have D1 := Lib.hid (impl_isPlayerOf K (.slice a N c) i true (decide_eq_true hi2))
      by_cases hj2 : 0 ≤ j ∧ j < K
      · have D2 := Lib.hid (impl_isPlayerOf K (.slice a N c) j true (decide_eq_true hj2))
        obtain ⟨p, rfl⟩ : ∃ p : Nat, i = p := ⟨i.toNat, by omega⟩
        obtain ⟨q, rfl⟩ : ∃ q : Nat, j = q := ⟨j.toNat, by omega⟩
        have Hr := Lib.hid ((HSR.out p q hi2.2 hj2.2).symm.trans HR.out)
        have hp5 : p < 5 := by omega
        have hq5 : q < 5 := by omega
        have hpk : (p : Int) < K := hi2.2
        have hqk : (q : Int) < K := hj2.2
        have hsp : IntKind.i64.wrap ((2 : Int) ^ p) = 2 ^ p := IntWalk.i64_in _ (by have h2 := Co.two_pow p hp5; omega)
        have hsq : IntKind.i64.wrap ((2 : Int) ^ q) = 2 ^ q := IntWalk.i64_in _ (by have h2 := Co.two_pow q hq5; omega)
        clear hi2 hj2 HSi HSj HSR HR
        go_enter Try.func41, Try.ntmps41
        go_wp2_with fail
        rw [← HW.out]
        clear HW
        refine (impl_IsValidGame true HV.out HX.out HF.out).mono ?_
        rintro e w1 ⟨rfl, k⟩
        have HB1 := Lib.hid k
        obtain ⟨m2, m3⟩ := two (HC.out.below k)
        clear k m0 m1
        go_wp2_with fail
        refine (D1.out _).mono ?_
        rintro e w2 ⟨rfl, k⟩
        have HB2 := Lib.hid (HB1.out.trans (k.mono HB1.out.size))
        obtain ⟨m0, m1⟩ := two (HC.out.below HB2.out)
        clear k m2 m3 HB1
        go_wp2_with fail
        refine (D2.out _).mono ?_
        rintro e w3 ⟨rfl, k⟩
        have HB0 := Lib.hid (HB2.out.trans (k.mono HB2.out.size))
        obtain ⟨m2, m3⟩ := two (HC.out.below HB0.out)
        clear k m0 m1 HB2
        go_wp2_with fail
        go_loopw [27] (fun i wr => ∃ s : Nat, s ≤ N ∧ i = .int .i64 s ∧ Hid (Below W.heap.size W wr) ∧ Hid (∀ t, t < s → Pr.symAt g p q t = true)) (fun i _ => N - (intOf i).toNat)
        case atStart => exact ⟨0, Nat.zero_le _, rfl, HB0, fun j hj => absurd hj (by omega)⟩
        case round =>
          obtain ⟨s, hs, rfl, hB, hA⟩ := hrel
          clear m2 m3 HB0
          by_cases hls : s < N
          · have hb0 := hB.out.drew
            rcases hh : Co.has (s : Int) p with _ | _
            · have Hh := Lib.hid (impl_HasPlayer (s : Int) p hp5 false hh)
              rcases hh2 : Co.has (s : Int) q with _ | _
              · have Hg := Lib.hid (impl_HasPlayer (s : Int) q hq5 false hh2)
                obtain ⟨hu1, hm1⟩ := HMo.out s p hls hpk hh
                obtain ⟨hu2, hm2⟩ := HMo.out s q hls hqk hh2
                have Up := Lib.hid (HUn.out s p hls hp5)
                have Uq := Lib.hid (HUn.out s q hls hq5)
                rw [hu1] at Up
                rw [hu2] at Uq
                have Vp := Lib.hid (HVal.out _ hm1)
                have Vq := Lib.hid (HVal.out _ hm2)
                rcases hq : Pr.symAt g p q s with _ | _
                · have Hr2 := Lib.hid ((HNo.out p q s hls hq).symm.trans Hr.out)
                  have hne : (g.v.getD (s + 2 ^ p) 0 != g.v.getD (s + 2 ^ q) 0) = true := by
                    unfold Pr.symAt Pr.at' at hq
                    rw [hh, hh2, Bool.false_or, Bool.false_or] at hq
                    have := of_decide_eq_false hq
                    rw [bne_iff_ne]; exact this
                  clear hq hh hh2 hu1 hu2 hm1 hm2
                  generalize g.v.getD (s + 2 ^ p) 0 = X at *
                  generalize g.v.getD (s + 2 ^ q) 0 = Y at *
                  generalize s + 2 ^ p = P at *
                  generalize s + 2 ^ q = Q at *
                  go_wp2_with fail
                  refine (Hh.out _).mono ?_
                  rintro e w4 ⟨rfl, rfl⟩
                  go_wp2_with fail
                  refine (Hg.out _).mono ?_
                  rintro e w4 ⟨rfl, rfl⟩
                  go_upto_region 7 with fail
                  refine wp_region_T_drew (S := (fun w' => w'.cell? ⟨w.heap.size, 0, none⟩ = some (.int .i64 K) ∧ w'.cell? ⟨w.heap.size, 1, none⟩ = some (.slice a N c) ∧ Below W.heap.size W w')) 15 (by kernel_rfl) ?_ (fun hHeld => ?_)
                  · exact Cell.out _ hb0
                  refine wpAnyT_take (i := 0) (oi := { dst := some 40, op := Op.move (Operand.tmp 8), type := 4, pos := "l10_property.go:88", after := #[], guard := none }) (v := ?_) rfl (by kernel_rfl) (fun _ _ _ h => h) (Or.inl ⟨by rfl, ?_⟩) (by assumption) ?_
                  rotate_left 1
                  · intro w hSw; (try dsimp only at hSw); go_simp; try (with_reducible rfl)
                  try simp only [Act.put, List.setIfInBounds_toArray, List.set_cons_zero, List.set_cons_succ]
                  refine wpAnyT_take (i := 1) (oi := { dst := some 41, op := Op.move (Operand.tmp 40), type := 4, pos := "l10_property.go:88", after := #[{ on := 0, ground := Ground.data }], guard := none }) (v := ?_) rfl (by kernel_rfl) (fun _ _ _ h => h) (Or.inl ⟨by rfl, ?_⟩) (by assumption) ?_
                  rotate_left 1
                  · intro w hSw; (try dsimp only at hSw); go_simp; try (with_reducible rfl)
                  try simp only [Act.put, List.setIfInBounds_toArray, List.set_cons_zero, List.set_cons_succ]
                  refine wpAnyT_take (i := 2) (oi := { dst := some 42, op := Op.load 26 (Operand.tmp 3), type := 26, pos := "l10_property.go:88", after := #[{ on := 1, ground := Ground.guard }], guard := some (1, true) }) (v := ?_) rfl (by kernel_rfl) (fun _ _ _ h => h) (Or.inl ⟨by rfl, ?_⟩) (by assumption) ?_
                  rotate_left 1
                  · intro w hSw; (try dsimp only at hSw); go_simp; try (with_reducible rfl)
                  try simp only [Act.put, List.setIfInBounds_toArray, List.set_cons_zero, List.set_cons_succ]
                  refine wpAnyT_take (i := 3) (oi := { dst := some 43, op := Op.move (Operand.tmp 7), type := 3, pos := "l10_property.go:88", after := #[{ on := 1, ground := Ground.guard }], guard := some (1, true) }) (v := ?_) rfl (by kernel_rfl) (fun _ _ _ h => h) (Or.inl ⟨by rfl, ?_⟩) (by assumption) ?_
                  rotate_left 1
                  · intro w hSw; (try dsimp only at hSw); go_simp; try (with_reducible rfl)
                  try simp only [Act.put, List.setIfInBounds_toArray, List.set_cons_zero, List.set_cons_succ]
                  refine wpAnyT_take (i := 4) (oi := { dst := some 44, op := Op.move (Operand.tmp 1), type := 3, pos := "l10_property.go:88", after := #[{ on := 1, ground := Ground.guard }], guard := some (1, true) }) (v := ?_) rfl (by kernel_rfl) (fun _ _ _ h => h) (Or.inl ⟨by rfl, ?_⟩) (by assumption) ?_
                  rotate_left 1
                  · intro w hSw; (try dsimp only at hSw); go_simp; try (with_reducible rfl)
                  try simp only [Act.put, List.setIfInBounds_toArray, List.set_cons_zero, List.set_cons_succ]
                  refine wpAnyT_take (i := 5) (oi := { dst := some 45, op := Op.binOp BinOp.shl 3 (Operand.const (Value.int IntKind.i64 1)) (Operand.tmp 44) 3, type := 3, pos := "l10_property.go:88", after := #[{ on := 4, ground := Ground.data }, { on := 1, ground := Ground.guard }], guard := some (1, true) }) (v := ?_) rfl (by kernel_rfl) (fun _ _ _ h => h) (Or.inl ⟨by rfl, ?_⟩) (by assumption) ?_
                  rotate_left 1
                  · intro w hSw; (try dsimp only at hSw); go_simp; try (with_reducible rfl)
                  try simp only [Act.put, List.setIfInBounds_toArray, List.set_cons_zero, List.set_cons_succ]
                  refine wpAnyT_take (i := 8) (oi := { dst := some 48, op := Op.load 26 (Operand.tmp 3), type := 26, pos := "l10_property.go:88", after := #[{ on := 1, ground := Ground.guard }], guard := some (1, true) }) (v := ?_) rfl (by kernel_rfl) (fun _ _ _ h => h) (Or.inl ⟨by rfl, ?_⟩) (by assumption) ?_
                  rotate_left 1
                  · intro w hSw; (try dsimp only at hSw); go_simp; try (with_reducible rfl)
                  try simp only [Act.put, List.setIfInBounds_toArray, List.set_cons_zero, List.set_cons_succ]
                  refine wpAnyT_take (i := 9) (oi := { dst := some 49, op := Op.move (Operand.tmp 7), type := 3, pos := "l10_property.go:88", after := #[{ on := 1, ground := Ground.guard }], guard := some (1, true) }) (v := ?_) rfl (by kernel_rfl) (fun _ _ _ h => h) (Or.inl ⟨by rfl, ?_⟩) (by assumption) ?_
                  rotate_left 1
                  · intro w hSw; (try dsimp only at hSw); go_simp; try (with_reducible rfl)
                  try simp only [Act.put, List.setIfInBounds_toArray, List.set_cons_zero, List.set_cons_succ]
                  refine wpAnyT_take (i := 10) (oi := { dst := some 50, op := Op.move (Operand.tmp 2), type := 3, pos := "l10_property.go:88", after := #[{ on := 1, ground := Ground.guard }], guard := some (1, true) }) (v := ?_) rfl (by kernel_rfl) (fun _ _ _ h => h) (Or.inl ⟨by rfl, ?_⟩) (by assumption) ?_
                  rotate_left 1
                  · intro w hSw; (try dsimp only at hSw); go_simp; try (with_reducible rfl)
                  try simp only [Act.put, List.setIfInBounds_toArray, List.set_cons_zero, List.set_cons_succ]
                  refine wpAnyT_take (i := 11) (oi := { dst := some 51, op := Op.binOp BinOp.shl 3 (Operand.const (Value.int IntKind.i64 1)) (Operand.tmp 50) 3, type := 3, pos := "l10_property.go:88", after := #[{ on := 10, ground := Ground.data }, { on := 1, ground := Ground.guard }], guard := some (1, true) }) (v := ?_) rfl (by kernel_rfl) (fun _ _ _ h => h) (Or.inl ⟨by rfl, ?_⟩) (by assumption) ?_
                  rotate_left 1
                  · intro w hSw; (try dsimp only at hSw); go_simp; try (with_reducible rfl)
                  try simp only [Act.put, List.setIfInBounds_toArray, List.set_cons_zero, List.set_cons_succ]
                  refine wpAnyT_ready (rs := [6]) (by kernel_rfl) (by simp) ?_
                  refine (AllReadyT.cons (o := { dst := some 46, op := Op.call { callee := Callee.value (Operand.func 19), args := #[Operand.tmp 43, Operand.tmp 45], argTypes := #[3, 3] }, type := 3, pos := "l10_property.go:88", after := #[{ on := 3, ground := Ground.data }, { on := 5, ground := Ground.data }, { on := 1, ground := Ground.chain }, { on := 1, ground := Ground.guard }], guard := some (1, true) }) (rs := []) rfl (fun K hK => ?_) AllReadyT.nil)
                  go_simp
                  (refine (Up.out _).mono ?_; rintro e w1 ⟨rfl, rfl⟩)
                  refine hK.out _ _ ?_ (fun hHeld => ?_)
                  · exact Cell.out _ hb0
                  clear hK K
                  try simp only [Act.put, List.setIfInBounds_toArray, List.set_cons_zero, List.set_cons_succ]
                  refine wpAnyT_ready (rs := [7]) (by kernel_rfl) (by simp) ?_
                  refine (AllReadyT.cons (o := { dst := some 47, op := Op.call { callee := Callee.value (Operand.func 18), args := #[Operand.tmp 42, Operand.tmp 46], argTypes := #[26, 3] }, type := 3, pos := "l10_property.go:88", after := #[{ on := 2, ground := Ground.data }, { on := 6, ground := Ground.data }, { on := 6, ground := Ground.chain }, { on := 1, ground := Ground.guard }], guard := some (1, true) }) (rs := []) rfl (fun K hK => ?_) AllReadyT.nil)
                  go_simp
                  (refine (Vp.out _ hb0).mono ?_; rintro e w2 ⟨rfl, kB⟩; have hb2 := hb0.trans (kB.mono hb0.size))
                  refine hK.out _ _ ?_ (fun hHeld => ?_)
                  · exact Cell.out _ hb2
                  clear hK K
                  try simp only [Act.put, List.setIfInBounds_toArray, List.set_cons_zero, List.set_cons_succ]
                  refine wpAnyT_ready (rs := [12]) (by kernel_rfl) (by simp) ?_
                  refine (AllReadyT.cons (o := { dst := some 52, op := Op.call { callee := Callee.value (Operand.func 19), args := #[Operand.tmp 49, Operand.tmp 51], argTypes := #[3, 3] }, type := 3, pos := "l10_property.go:88", after := #[{ on := 9, ground := Ground.data }, { on := 11, ground := Ground.data }, { on := 7, ground := Ground.chain }, { on := 1, ground := Ground.guard }], guard := some (1, true) }) (rs := []) rfl (fun K hK => ?_) AllReadyT.nil)
                  go_simp
                  (refine (Uq.out _).mono ?_; rintro e w1 ⟨rfl, rfl⟩)
                  refine hK.out _ _ ?_ (fun hHeld => ?_)
                  · exact Cell.out _ hb2
                  clear hK K
                  try simp only [Act.put, List.setIfInBounds_toArray, List.set_cons_zero, List.set_cons_succ]
                  refine wpAnyT_ready (rs := [13]) (by kernel_rfl) (by simp) ?_
                  refine (AllReadyT.cons (o := { dst := some 53, op := Op.call { callee := Callee.value (Operand.func 18), args := #[Operand.tmp 48, Operand.tmp 52], argTypes := #[26, 3] }, type := 3, pos := "l10_property.go:88", after := #[{ on := 8, ground := Ground.data }, { on := 12, ground := Ground.data }, { on := 12, ground := Ground.chain }, { on := 1, ground := Ground.guard }], guard := some (1, true) }) (rs := []) rfl (fun K hK => ?_) AllReadyT.nil)
                  go_simp
                  (refine (Vq.out _ hb2).mono ?_; rintro e w5 ⟨rfl, kB5⟩; have hb5 := hb2.trans (kB5.mono hb2.size))
                  refine hK.out _ _ ?_ (fun hHeld => ?_)
                  · exact Cell.out _ hb5
                  clear hK K
                  try simp only [Act.put, List.setIfInBounds_toArray, List.set_cons_zero, List.set_cons_succ]
                  refine wpAnyT_take (i := 14) (oi := { dst := some 54, op := Op.binOp BinOp.neq 3 (Operand.tmp 47) (Operand.tmp 53) 3, type := 4, pos := "l10_property.go:88", after := #[{ on := 7, ground := Ground.data }, { on := 13, ground := Ground.data }, { on := 1, ground := Ground.guard }], guard := some (1, true) }) (v := ?_) rfl (by kernel_rfl) (fun _ _ _ h => h) (Or.inl ⟨by rfl, ?_⟩) (by assumption) ?_
                  rotate_left 1
                  · intro w hSw; (try dsimp only at hSw); go_simp; try (with_reducible rfl)
                  try simp only [Act.put, List.setIfInBounds_toArray, List.set_cons_zero, List.set_cons_succ]
                  refine wpAnyT_ready (rs := [15]) (by kernel_rfl) (by simp) ?_
                  refine (AllReadyT.last (o := { dst := some 55, op := Op.pick (Operand.tmp 41) (Operand.tmp 54) (Operand.const (Value.bool false)), type := 4, pos := "l10_property.go:88", after := #[{ on := 1, ground := Ground.data }, { on := 14, ground := Ground.data }], guard := none }) (rs := []) rfl (by rfl) (fun K hK => ?_) AllReadyT.nil)
                  go_simp
                  refine hK.out _ _ ?_
                  clear hK K
                  try simp only [Act.put, List.setIfInBounds_toArray, List.set_cons_zero, List.set_cons_succ]
                  refine wpAnyT_done (by kernel_rfl) ?_ _
                  go_wp2_with fail
                  go_ret
                  exact ⟨ret_bool Hr2.out, HBl.out.trans (hb5.mono hle)⟩
                · have HA2 : Hid (∀ t, t < s + 1 → Pr.symAt g p q t = true) := fun t ht => by
                    by_cases e : t = s
                    · subst e; exact hq
                    · exact hA.out t (by omega)
                  have hne : (g.v.getD (s + 2 ^ p) 0 != g.v.getD (s + 2 ^ q) 0) = false := by
                    unfold Pr.symAt Pr.at' at hq
                    rw [hh, hh2, Bool.false_or, Bool.false_or] at hq
                    have := of_decide_eq_true hq
                    rw [this]; simp
                  clear hq hh hh2 hu1 hu2 hm1 hm2
                  generalize g.v.getD (s + 2 ^ p) 0 = X at *
                  generalize g.v.getD (s + 2 ^ q) 0 = Y at *
                  generalize s + 2 ^ p = P at *
                  generalize s + 2 ^ q = Q at *
                  go_wp2_with fail
                  refine (Hh.out _).mono ?_
                  rintro e w4 ⟨rfl, rfl⟩
                  go_wp2_with fail
                  refine (Hg.out _).mono ?_
                  rintro e w4 ⟨rfl, rfl⟩
                  go_upto_region 7 with fail
                  refine wp_region_T_drew (S := (fun w' => w'.cell? ⟨w.heap.size, 0, none⟩ = some (.int .i64 K) ∧ w'.cell? ⟨w.heap.size, 1, none⟩ = some (.slice a N c) ∧ Below W.heap.size W w')) 15 (by kernel_rfl) ?_ (fun hHeld => ?_)
                  · exact Cell.out _ hb0
                  refine wpAnyT_take (i := 0) (oi := { dst := some 40, op := Op.move (Operand.tmp 8), type := 4, pos := "l10_property.go:88", after := #[], guard := none }) (v := ?_) rfl (by kernel_rfl) (fun _ _ _ h => h) (Or.inl ⟨by rfl, ?_⟩) (by assumption) ?_
                  rotate_left 1
                  · intro w hSw; (try dsimp only at hSw); go_simp; try (with_reducible rfl)
                  try simp only [Act.put, List.setIfInBounds_toArray, List.set_cons_zero, List.set_cons_succ]
                  refine wpAnyT_take (i := 1) (oi := { dst := some 41, op := Op.move (Operand.tmp 40), type := 4, pos := "l10_property.go:88", after := #[{ on := 0, ground := Ground.data }], guard := none }) (v := ?_) rfl (by kernel_rfl) (fun _ _ _ h => h) (Or.inl ⟨by rfl, ?_⟩) (by assumption) ?_
                  rotate_left 1
                  · intro w hSw; (try dsimp only at hSw); go_simp; try (with_reducible rfl)
                  try simp only [Act.put, List.setIfInBounds_toArray, List.set_cons_zero, List.set_cons_succ]
                  refine wpAnyT_take (i := 2) (oi := { dst := some 42, op := Op.load 26 (Operand.tmp 3), type := 26, pos := "l10_property.go:88", after := #[{ on := 1, ground := Ground.guard }], guard := some (1, true) }) (v := ?_) rfl (by kernel_rfl) (fun _ _ _ h => h) (Or.inl ⟨by rfl, ?_⟩) (by assumption) ?_
                  rotate_left 1
                  · intro w hSw; (try dsimp only at hSw); go_simp; try (with_reducible rfl)
                  try simp only [Act.put, List.setIfInBounds_toArray, List.set_cons_zero, List.set_cons_succ]
                  refine wpAnyT_take (i := 3) (oi := { dst := some 43, op := Op.move (Operand.tmp 7), type := 3, pos := "l10_property.go:88", after := #[{ on := 1, ground := Ground.guard }], guard := some (1, true) }) (v := ?_) rfl (by kernel_rfl) (fun _ _ _ h => h) (Or.inl ⟨by rfl, ?_⟩) (by assumption) ?_
                  rotate_left 1
                  · intro w hSw; (try dsimp only at hSw); go_simp; try (with_reducible rfl)
                  try simp only [Act.put, List.setIfInBounds_toArray, List.set_cons_zero, List.set_cons_succ]
                  refine wpAnyT_take (i := 4) (oi := { dst := some 44, op := Op.move (Operand.tmp 1), type := 3, pos := "l10_property.go:88", after := #[{ on := 1, ground := Ground.guard }], guard := some (1, true) }) (v := ?_) rfl (by kernel_rfl) (fun _ _ _ h => h) (Or.inl ⟨by rfl, ?_⟩) (by assumption) ?_
                  rotate_left 1
                  · intro w hSw; (try dsimp only at hSw); go_simp; try (with_reducible rfl)
                  try simp only [Act.put, List.setIfInBounds_toArray, List.set_cons_zero, List.set_cons_succ]
                  refine wpAnyT_take (i := 5) (oi := { dst := some 45, op := Op.binOp BinOp.shl 3 (Operand.const (Value.int IntKind.i64 1)) (Operand.tmp 44) 3, type := 3, pos := "l10_property.go:88", after := #[{ on := 4, ground := Ground.data }, { on := 1, ground := Ground.guard }], guard := some (1, true) }) (v := ?_) rfl (by kernel_rfl) (fun _ _ _ h => h) (Or.inl ⟨by rfl, ?_⟩) (by assumption) ?_
                  rotate_left 1
                  · intro w hSw; (try dsimp only at hSw); go_simp; try (with_reducible rfl)
                  try simp only [Act.put, List.setIfInBounds_toArray, List.set_cons_zero, List.set_cons_succ]
                  refine wpAnyT_take (i := 8) (oi := { dst := some 48, op := Op.load 26 (Operand.tmp 3), type := 26, pos := "l10_property.go:88", after := #[{ on := 1, ground := Ground.guard }], guard := some (1, true) }) (v := ?_) rfl (by kernel_rfl) (fun _ _ _ h => h) (Or.inl ⟨by rfl, ?_⟩) (by assumption) ?_
                  rotate_left 1
                  · intro w hSw; (try dsimp only at hSw); go_simp; try (with_reducible rfl)
                  try simp only [Act.put, List.setIfInBounds_toArray, List.set_cons_zero, List.set_cons_succ]
                  refine wpAnyT_take (i := 9) (oi := { dst := some 49, op := Op.move (Operand.tmp 7), type := 3, pos := "l10_property.go:88", after := #[{ on := 1, ground := Ground.guard }], guard := some (1, true) }) (v := ?_) rfl (by kernel_rfl) (fun _ _ _ h => h) (Or.inl ⟨by rfl, ?_⟩) (by assumption) ?_
                  rotate_left 1
                  · intro w hSw; (try dsimp only at hSw); go_simp; try (with_reducible rfl)
                  try simp only [Act.put, List.setIfInBounds_toArray, List.set_cons_zero, List.set_cons_succ]
                  refine wpAnyT_take (i := 10) (oi := { dst := some 50, op := Op.move (Operand.tmp 2), type := 3, pos := "l10_property.go:88", after := #[{ on := 1, ground := Ground.guard }], guard := some (1, true) }) (v := ?_) rfl (by kernel_rfl) (fun _ _ _ h => h) (Or.inl ⟨by rfl, ?_⟩) (by assumption) ?_
                  rotate_left 1
                  · intro w hSw; (try dsimp only at hSw); go_simp; try (with_reducible rfl)
                  try simp only [Act.put, List.setIfInBounds_toArray, List.set_cons_zero, List.set_cons_succ]
                  refine wpAnyT_take (i := 11) (oi := { dst := some 51, op := Op.binOp BinOp.shl 3 (Operand.const (Value.int IntKind.i64 1)) (Operand.tmp 50) 3, type := 3, pos := "l10_property.go:88", after := #[{ on := 10, ground := Ground.data }, { on := 1, ground := Ground.guard }], guard := some (1, true) }) (v := ?_) rfl (by kernel_rfl) (fun _ _ _ h => h) (Or.inl ⟨by rfl, ?_⟩) (by assumption) ?_
                  rotate_left 1
                  · intro w hSw; (try dsimp only at hSw); go_simp; try (with_reducible rfl)
                  try simp only [Act.put, List.setIfInBounds_toArray, List.set_cons_zero, List.set_cons_succ]
                  refine wpAnyT_ready (rs := [6]) (by kernel_rfl) (by simp) ?_
                  refine (AllReadyT.cons (o := { dst := some 46, op := Op.call { callee := Callee.value (Operand.func 19), args := #[Operand.tmp 43, Operand.tmp 45], argTypes := #[3, 3] }, type := 3, pos := "l10_property.go:88", after := #[{ on := 3, ground := Ground.data }, { on := 5, ground := Ground.data }, { on := 1, ground := Ground.chain }, { on := 1, ground := Ground.guard }], guard := some (1, true) }) (rs := []) rfl (fun K hK => ?_) AllReadyT.nil)
                  go_simp
                  (refine (Up.out _).mono ?_; rintro e w1 ⟨rfl, rfl⟩)
                  refine hK.out _ _ ?_ (fun hHeld => ?_)
                  · exact Cell.out _ hb0
                  clear hK K
                  try simp only [Act.put, List.setIfInBounds_toArray, List.set_cons_zero, List.set_cons_succ]
                  refine wpAnyT_ready (rs := [7]) (by kernel_rfl) (by simp) ?_
                  refine (AllReadyT.cons (o := { dst := some 47, op := Op.call { callee := Callee.value (Operand.func 18), args := #[Operand.tmp 42, Operand.tmp 46], argTypes := #[26, 3] }, type := 3, pos := "l10_property.go:88", after := #[{ on := 2, ground := Ground.data }, { on := 6, ground := Ground.data }, { on := 6, ground := Ground.chain }, { on := 1, ground := Ground.guard }], guard := some (1, true) }) (rs := []) rfl (fun K hK => ?_) AllReadyT.nil)
                  go_simp
                  (refine (Vp.out _ hb0).mono ?_; rintro e w2 ⟨rfl, kB⟩; have hb2 := hb0.trans (kB.mono hb0.size))
                  refine hK.out _ _ ?_ (fun hHeld => ?_)
                  · exact Cell.out _ hb2
                  clear hK K
                  try simp only [Act.put, List.setIfInBounds_toArray, List.set_cons_zero, List.set_cons_succ]
                  refine wpAnyT_ready (rs := [12]) (by kernel_rfl) (by simp) ?_
                  refine (AllReadyT.cons (o := { dst := some 52, op := Op.call { callee := Callee.value (Operand.func 19), args := #[Operand.tmp 49, Operand.tmp 51], argTypes := #[3, 3] }, type := 3, pos := "l10_property.go:88", after := #[{ on := 9, ground := Ground.data }, { on := 11, ground := Ground.data }, { on := 7, ground := Ground.chain }, { on := 1, ground := Ground.guard }], guard := some (1, true) }) (rs := []) rfl (fun K hK => ?_) AllReadyT.nil)
                  go_simp
                  (refine (Uq.out _).mono ?_; rintro e w1 ⟨rfl, rfl⟩)
                  refine hK.out _ _ ?_ (fun hHeld => ?_)
                  · exact Cell.out _ hb2
                  clear hK K
                  try simp only [Act.put, List.setIfInBounds_toArray, List.set_cons_zero, List.set_cons_succ]
                  refine wpAnyT_ready (rs := [13]) (by kernel_rfl) (by simp) ?_
                  refine (AllReadyT.cons (o := { dst := some 53, op := Op.call { callee := Callee.value (Operand.func 18), args := #[Operand.tmp 48, Operand.tmp 52], argTypes := #[26, 3] }, type := 3, pos := "l10_property.go:88", after := #[{ on := 8, ground := Ground.data }, { on := 12, ground := Ground.data }, { on := 12, ground := Ground.chain }, { on := 1, ground := Ground.guard }], guard := some (1, true) }) (rs := []) rfl (fun K hK => ?_) AllReadyT.nil)
                  go_simp
                  (refine (Vq.out _ hb2).mono ?_; rintro e w5 ⟨rfl, kB5⟩; have hb5 := hb2.trans (kB5.mono hb2.size))
                  refine hK.out _ _ ?_ (fun hHeld => ?_)
                  · exact Cell.out _ hb5
                  clear hK K
                  try simp only [Act.put, List.setIfInBounds_toArray, List.set_cons_zero, List.set_cons_succ]
                  refine wpAnyT_take (i := 14) (oi := { dst := some 54, op := Op.binOp BinOp.neq 3 (Operand.tmp 47) (Operand.tmp 53) 3, type := 4, pos := "l10_property.go:88", after := #[{ on := 7, ground := Ground.data }, { on := 13, ground := Ground.data }, { on := 1, ground := Ground.guard }], guard := some (1, true) }) (v := ?_) rfl (by kernel_rfl) (fun _ _ _ h => h) (Or.inl ⟨by rfl, ?_⟩) (by assumption) ?_
                  rotate_left 1
                  · intro w hSw; (try dsimp only at hSw); go_simp; try (with_reducible rfl)
                  try simp only [Act.put, List.setIfInBounds_toArray, List.set_cons_zero, List.set_cons_succ]
                  refine wpAnyT_ready (rs := [15]) (by kernel_rfl) (by simp) ?_
                  refine (AllReadyT.last (o := { dst := some 55, op := Op.pick (Operand.tmp 41) (Operand.tmp 54) (Operand.const (Value.bool false)), type := 4, pos := "l10_property.go:88", after := #[{ on := 1, ground := Ground.data }, { on := 14, ground := Ground.data }], guard := none }) (rs := []) rfl (by rfl) (fun K hK => ?_) AllReadyT.nil)
                  go_simp
                  refine hK.out _ _ ?_
                  clear hK K
                  try simp only [Act.put, List.setIfInBounds_toArray, List.set_cons_zero, List.set_cons_succ]
                  refine wpAnyT_done (by kernel_rfl) ?_ _
                  go_wp2_with fail
                  go_roundw
                  case rel => exact ⟨s + 1, by omega, by go_num, hb5, HA2⟩
                  case measure => simp [intOf]; omega
              · have Hg := Lib.hid (impl_HasPlayer (s : Int) q hq5 true hh2)
                have HA2 : Hid (∀ t, t < s + 1 → Pr.symAt g p q t = true) := fun t ht => by
                  by_cases e : t = s
                  · subst e; unfold Pr.symAt; rw [hh2]; simp
                  · exact hA.out t (by omega)
                clear hh hh2
                go_wp2_with fail
                refine (Hh.out _).mono ?_
                rintro e w4 ⟨rfl, rfl⟩
                go_wp2_with fail
                refine (Hg.out _).mono ?_
                rintro e w4 ⟨rfl, rfl⟩
                go_wp2_with fail
                go_quiet (fail)
                go_wp2_with fail
                go_roundw
                case rel => exact ⟨s + 1, by omega, by go_num, below_drewN hB.out nq, HA2⟩
                case measure => simp [intOf]; omega
            · have Hh := Lib.hid (impl_HasPlayer (s : Int) p hp5 true hh)
              have HA2 : Hid (∀ t, t < s + 1 → Pr.symAt g p q t = true) := fun t ht => by
                by_cases e : t = s
                · subst e; unfold Pr.symAt; rw [hh]; rfl
                · exact hA.out t (by omega)
              clear hh
              go_wp2_with fail
              refine (Hh.out _).mono ?_
              rintro e w4 ⟨rfl, rfl⟩
              go_wp2_with fail
              go_quiet (fail)
              go_wp2_with fail
              go_roundw
              case rel => exact ⟨s + 1, by omega, by go_num, below_drewN hB.out nq, HA2⟩
              case measure => simp [intOf]; omega
          · have Hr2 := Lib.hid ((HYes.out p q (fun t ht => hA.out t (by omega))).symm.trans Hr.out)
            go_wp2_with fail
            go_ret
            exact ⟨ret_bool Hr2.out, HBl.out.trans (hB.out.mono hle)⟩
      · have D2 := Lib.hid (impl_isPlayerOf K (.slice a N c) j false (decide_eq_false hj2))
        have Hr := Lib.hid ((HSj.out hj2).symm.trans HR.out)
        clear hi2 hj2 HSi HSj HSR HR
        go_enter Try.func41, Try.ntmps41
        go_wp2_with fail
        rw [← HW.out]
        clear HW
        refine (impl_IsValidGame true HV.out HX.out HF.out).mono ?_
        rintro e w1 ⟨rfl, k⟩
        have HB1 := Lib.hid k
        obtain ⟨m2, m3⟩ := two (HC.out.below k)
        clear k m0 m1
        go_wp2_with fail
        refine (D1.out _).mono ?_
        rintro e w2 ⟨rfl, k⟩
        have HB2 := Lib.hid (HB1.out.trans (k.mono HB1.out.size))
        obtain ⟨m0, m1⟩ := two (HC.out.below HB2.out)
        clear k m2 m3 HB1
        go_wp2_with fail
        refine (D2.out _).mono ?_
        rintro e w3 ⟨rfl, k⟩
        have HB0 := Lib.hid (HB2.out.trans (k.mono HB2.out.size))
        clear k m0 m1 HB2
        go_wp2_with fail
        go_ret
        exact ⟨ret_bool Hr.out, HBl.out.trans (HB0.out.mono hle)⟩
    · have D1 := Lib.hid (impl_isPlayerOf K (.slice a N c) i false (decide_eq_false hi2))
      have Hr := Lib.hid ((HSi.out hi2).symm.trans HR.out)
      clear hi2 HSi HSj HSR HR
      go_enter Try.func41, Try.ntmps41
      go_wp2_with fail
      rw [← HW.out]
      clear HW
      refine (impl_IsValidGame true HV.out HX.out HF.out).mono ?_
      rintro e w1 ⟨rfl, k⟩
      have HB1 := Lib.hid k
      obtain ⟨m2, m3⟩ := two (HC.out.below k)
      clear k m0 m1
      go_wp2_with fail
      refine (D1.out _).mono ?_
      rintro e w2 ⟨rfl, k⟩
      have HB2 := Lib.hid (HB1.out.trans (k.mono HB1.out.size))
      clear k m2 m3 HB1
      go_wp2_with fail
      go_ret
      exact ⟨ret_bool Hr.out, HBl.out.trans (HB2.out.mono hle)⟩
end Go.Proofs.Ytodjapljoimkgaa
