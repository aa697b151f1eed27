/- impl: isNull, NullPlayers. -/
import Derived.Test.YtodjapljoimkgaaPrC
namespace Go.Proofs.Ytodjapljoimkgaa
open Go.RowKit
open Gm (G)
theorem two_good {k : Nat} (hk : k < 5) : Co.good ((2 : Int) ^ k) = true := by
  have := Co.two_pow k hk
  unfold Co.good
  rw [decide_eq_true_iff]
  omega
set_option maxRecDepth 100000 in
set_option maxHeartbeats 4000000 in
theorem impl_isNull {w : World} {x y : Value} {g : G} (k : Nat) (hk : (k : Int) < g.n) (hv : Gm.vld g = true) (r : Bool) (hr : Pr.nul g k = r) (h : GmC w x y g) (hf : GmOk g) :
    Calls Try.prog 59 #[.agg #[x, y], .int .i64 k] w fun e w' => e = .returned (.bool r) ∧ Below w.heap.size w w' := by
  have HX := Lib.hid (gm_box h 26).1
  have HBl := Lib.hid (gm_box h 26).2
  have HC := Lib.hid (CellsAt.new w #[x, y] 26)
  obtain ⟨W, hW⟩ : ∃ W, W = w.alloc (.cells #[x, y] 26) := ⟨_, rfl⟩
  rw [← hW] at HX HBl HC
  have HF := Lib.hid hf
  have HW := Lib.hid hW
  have hle : w.heap.size ≤ W.heap.size := HBl.out.size
  have HR := Lib.hid hr
  have hn5 := Gm.vld_n hv
  have hk5 : k < 5 := by omega
  have hl := Gm.vld_len hv
  have HVal := Lib.hid (fun (s : Nat) (hs : s < g.v.length) (W' : World) (hb : Below W.heap.size W W') => (show Calls Try.prog 18 #[.agg #[x, y], .int .i64 s] W' fun e w' => e = .returned (.int .i64 (g.v.getD s 0)) ∧ Below W'.heap.size W' w' from Gm.val_in hs ▸ impl_ValueOf (s : Int) (HX.out.up hb) hf))
  have HUn := Lib.hid (fun (s : Nat) (hs : s < g.v.length) (W' : World) => (impl_Union (s : Int) (2 ^ k) (Pr.good_at hv hs) (two_good hk5) W').mono fun _ w' h => (show _ ∧ w' = W' from ⟨h.1, h.2.symm⟩))
  have HMy := Lib.hid (fun (s : Nat) (hs : s < g.v.length) => Pr.more_yes hv hs hk)
  have HMn := Lib.hid (fun (s : Nat) (hs : s < g.v.length) => Pr.more_no hv hs hk)
  have HAt := Lib.hid (fun j (hj : j < g.v.length) => Gm.vld_at hv hj)
  have hsh : IntKind.i64.wrap ((2 : Int) ^ k) = 2 ^ k := IntWalk.i64_in _ (by have h2 := Co.two_pow k hk5; omega)
  have Cell := Lib.hid (fun w' (hb : Below W.heap.size W w') => (show w'.cell? ⟨w.heap.size, 0, none⟩ = some x ∧ w'.cell? ⟨w.heap.size, 1, none⟩ = some y ∧ Below W.heap.size W w' from ⟨(two (HC.out.below hb)).1, (two (HC.out.below hb)).2, hb⟩))
  have HYes := Lib.hid (fun h => (Pr.nul_yes (g := g) (k := k) h).symm.trans hr)
  have HNo := Lib.hid (fun s hs h => (Pr.nul_no (g := g) (k := k) (s := s) hs h).symm.trans hr)
  have hx0 := HX.out
  obtain ⟨a, c, rfl, rfl, hi⟩ := hx0
  obtain ⟨bb, o, rfl, hbb, _⟩ := hi 0 (by omega)
  have HI := Lib.hid hi
  have HNm := Lib.hid (fun (wr : World) (hb : Below W.heap.size W wr) j (hj : j < g.v.length) => nums_at (HI.out.below hb) hj)
  obtain ⟨N, hN⟩ : ∃ N, g.v.length = N := ⟨_, rfl⟩
  rw [hN] at hl HVal HUn HMy HMn HAt Cell HNm HC HW HYes HNo
  rw [hN]
  obtain ⟨m0, m1⟩ := two HC.out
  clear h hf hv hr hW hi hN hbb HX HF HI HR hk hn5
  go_enter Try.func59, Try.ntmps59
  go_wp2_with fail
  rw [← HW.out]
  clear HW
  go_loopw [10] (fun i wr => ∃ s : Nat, s ≤ N ∧ i = .int .i64 s ∧ Hid (Below W.heap.size W wr) ∧ Hid (∀ j, j < s → Pr.nulAt g k j = true)) (fun i _ => N - (intOf i).toNat)
  case atStart => exact ⟨0, Nat.zero_le _, rfl, Below.refl _ _, fun j hj => absurd hj (by omega)⟩
  case round =>
    obtain ⟨s, hs, rfl, hB, hA⟩ := hrel
    clear m0 m1
    by_cases hls : s < N
    · have c1 := HNm.out _ hB.out s hls
      have b1 := HAt.out s hls
      have hb0 := hB.out.drew
      have Hu := Lib.hid (HUn.out s hls)
      obtain ⟨u, hu, hul, hua⟩ : ∃ u : Nat, Co.uni (s : Int) (2 ^ k) 5 = (u : Int) ∧ u < N ∧ Pr.nulAt g k s = decide (g.v.getD s 0 = g.v.getD u 0) := by
        rcases hh : Co.has (s : Int) k with _ | _
        · obtain ⟨e1, e2⟩ := HMn.out s hls hh
          exact ⟨_, e1, e2, by unfold Pr.nulAt Pr.at'; rw [hh]; rfl⟩
        · exact ⟨s, HMy.out s hls hh, hls, by unfold Pr.nulAt; rw [hh]; simp⟩
      rw [hu] at Hu
      have Hv := Lib.hid (HVal.out u hul)
      have b2 := HAt.out u hul
      rcases hq : Pr.nulAt g k s with _ | _
      · have Hr := Lib.hid (HNo.out s hls hq)
        rw [hua] at hq
        have hne : (g.v.getD u 0 != g.v.getD s 0) = true := by have := of_decide_eq_false hq; rw [bne_iff_ne]; exact fun h => this h.symm
        clear hq hua hu
        generalize g.v.getD s 0 = X at *
        generalize g.v.getD u 0 = Y at *
        go_upto_region 4 with fail
        refine wp_region_T_drew (S := (fun w' => w'.cell? ⟨w.heap.size, 0, none⟩ = some (.int .i64 g.n) ∧ w'.cell? ⟨w.heap.size, 1, none⟩ = some (.slice (some ⟨bb, o, none⟩) N c) ∧ Below W.heap.size W w')) 7 (by kernel_rfl) ?_ (fun hHeld => ?_)
        · exact Cell.out _ hb0
        refine wpAnyT_take (i := 0) (oi := { dst := some 15, op := Op.load 26 (Operand.tmp 2), type := 26, pos := "l10_property.go:75", after := #[], guard := none }) (v := ?_) rfl (by kernel_rfl) (fun _ _ _ h => h) (Or.inl ⟨by rfl, ?_⟩) (by assumption) ?_
        rotate_left 1
        · intro w hSw; (try dsimp only at hSw); go_simp; try (with_reducible rfl)
        try simp only [Act.put, List.setIfInBounds_toArray, List.set_cons_zero, List.set_cons_succ]
        refine wpAnyT_take (i := 1) (oi := { dst := some 16, op := Op.move (Operand.tmp 5), type := 3, pos := "l10_property.go:75", after := #[], guard := none }) (v := ?_) rfl (by kernel_rfl) (fun _ _ _ h => h) (Or.inl ⟨by rfl, ?_⟩) (by assumption) ?_
        rotate_left 1
        · intro w hSw; (try dsimp only at hSw); go_simp; try (with_reducible rfl)
        try simp only [Act.put, List.setIfInBounds_toArray, List.set_cons_zero, List.set_cons_succ]
        refine wpAnyT_take (i := 2) (oi := { dst := some 17, op := Op.move (Operand.tmp 1), type := 3, pos := "l10_property.go:75", after := #[], guard := none }) (v := ?_) rfl (by kernel_rfl) (fun _ _ _ h => h) (Or.inl ⟨by rfl, ?_⟩) (by assumption) ?_
        rotate_left 1
        · intro w hSw; (try dsimp only at hSw); go_simp; try (with_reducible rfl)
        try simp only [Act.put, List.setIfInBounds_toArray, List.set_cons_zero, List.set_cons_succ]
        refine wpAnyT_take (i := 3) (oi := { dst := some 18, op := Op.binOp BinOp.shl 3 (Operand.const (Value.int IntKind.i64 1)) (Operand.tmp 17) 3, type := 3, pos := "l10_property.go:75", after := #[{ on := 2, ground := Ground.data }], guard := none }) (v := ?_) rfl (by kernel_rfl) (fun _ _ _ h => h) (Or.inl ⟨by rfl, ?_⟩) (by assumption) ?_
        rotate_left 1
        · intro w hSw; (try dsimp only at hSw); go_simp; try (with_reducible rfl)
        try simp only [Act.put, List.setIfInBounds_toArray, List.set_cons_zero, List.set_cons_succ]
        refine wpAnyT_take (i := 6) (oi := { dst := some 21, op := Op.move (Operand.tmp 6), type := 3, pos := "l10_property.go:75", after := #[], guard := none }) (v := ?_) rfl (by kernel_rfl) (fun _ _ _ h => h) (Or.inl ⟨by rfl, ?_⟩) (by assumption) ?_
        rotate_left 1
        · intro w hSw; (try dsimp only at hSw); go_simp; try (with_reducible rfl)
        try simp only [Act.put, List.setIfInBounds_toArray, List.set_cons_zero, List.set_cons_succ]
        refine wpAnyT_ready (rs := [4]) (by kernel_rfl) (by simp) ?_
        refine (AllReadyT.cons (o := { dst := some 19, op := Op.call { callee := Callee.value (Operand.func 19), args := #[Operand.tmp 16, Operand.tmp 18], argTypes := #[3, 3] }, type := 3, pos := "l10_property.go:75", after := #[{ on := 1, ground := Ground.data }, { on := 3, ground := Ground.data }], guard := none }) (rs := []) rfl (fun K hK => ?_) AllReadyT.nil)
        go_simp
        (refine (Hu.out _).mono ?_; rintro e w1 ⟨rfl, rfl⟩)
        refine hK.out _ _ ?_ (fun hHeld => ?_)
        · exact Cell.out _ hb0
        clear hK K
        try simp only [Act.put, List.setIfInBounds_toArray, List.set_cons_zero, List.set_cons_succ]
        refine wpAnyT_ready (rs := [5]) (by kernel_rfl) (by simp) ?_
        refine (AllReadyT.cons (o := { dst := some 20, op := Op.call { callee := Callee.value (Operand.func 18), args := #[Operand.tmp 15, Operand.tmp 19], argTypes := #[26, 3] }, type := 3, pos := "l10_property.go:75", after := #[{ on := 0, ground := Ground.data }, { on := 4, ground := Ground.data }, { on := 4, ground := Ground.chain }], guard := none }) (rs := []) rfl (fun K hK => ?_) AllReadyT.nil)
        go_simp
        (refine (Hv.out _ hb0).mono ?_; rintro e w2 ⟨rfl, kB⟩; have hb2 := hb0.trans (kB.mono hb0.size))
        refine hK.out _ _ ?_ (fun hHeld => ?_)
        · exact Cell.out _ hb2
        clear hK K
        try simp only [Act.put, List.setIfInBounds_toArray, List.set_cons_zero, List.set_cons_succ]
        refine wpAnyT_ready (rs := [7]) (by kernel_rfl) (by simp) ?_
        refine (AllReadyT.last (o := { dst := some 22, op := Op.binOp BinOp.neq 3 (Operand.tmp 20) (Operand.tmp 21) 3, type := 4, pos := "l10_property.go:75", after := #[{ on := 5, ground := Ground.data }, { on := 6, ground := Ground.data }], guard := none }) (rs := []) rfl (by rfl) (fun K hK => ?_) AllReadyT.nil)
        go_simp
        refine hK.out _ _ ?_
        clear hK K
        try simp only [Act.put, List.setIfInBounds_toArray, List.set_cons_zero, List.set_cons_succ]
        refine wpAnyT_done (by kernel_rfl) ?_ _
        go_wp2_with fail
        go_ret
        exact ⟨ret_bool Hr.out, HBl.out.trans (hb2.mono hle)⟩
      · have HA2 : Hid (∀ j, j < s + 1 → Pr.nulAt g k j = true) := fun j hj => by
          by_cases e : j = s
          · subst e; exact hq
          · exact hA.out j (by omega)
        rw [hua] at hq
        have hne : (g.v.getD u 0 != g.v.getD s 0) = false := by have := of_decide_eq_true hq; rw [this]; simp
        clear hq hua hu
        generalize g.v.getD s 0 = X at *
        generalize g.v.getD u 0 = Y at *
        go_upto_region 4 with fail
        refine wp_region_T_drew (S := (fun w' => w'.cell? ⟨w.heap.size, 0, none⟩ = some (.int .i64 g.n) ∧ w'.cell? ⟨w.heap.size, 1, none⟩ = some (.slice (some ⟨bb, o, none⟩) N c) ∧ Below W.heap.size W w')) 7 (by kernel_rfl) ?_ (fun hHeld => ?_)
        · exact Cell.out _ hb0
        refine wpAnyT_take (i := 0) (oi := { dst := some 15, op := Op.load 26 (Operand.tmp 2), type := 26, pos := "l10_property.go:75", after := #[], guard := none }) (v := ?_) rfl (by kernel_rfl) (fun _ _ _ h => h) (Or.inl ⟨by rfl, ?_⟩) (by assumption) ?_
        rotate_left 1
        · intro w hSw; (try dsimp only at hSw); go_simp; try (with_reducible rfl)
        try simp only [Act.put, List.setIfInBounds_toArray, List.set_cons_zero, List.set_cons_succ]
        refine wpAnyT_take (i := 1) (oi := { dst := some 16, op := Op.move (Operand.tmp 5), type := 3, pos := "l10_property.go:75", after := #[], guard := none }) (v := ?_) rfl (by kernel_rfl) (fun _ _ _ h => h) (Or.inl ⟨by rfl, ?_⟩) (by assumption) ?_
        rotate_left 1
        · intro w hSw; (try dsimp only at hSw); go_simp; try (with_reducible rfl)
        try simp only [Act.put, List.setIfInBounds_toArray, List.set_cons_zero, List.set_cons_succ]
        refine wpAnyT_take (i := 2) (oi := { dst := some 17, op := Op.move (Operand.tmp 1), type := 3, pos := "l10_property.go:75", after := #[], guard := none }) (v := ?_) rfl (by kernel_rfl) (fun _ _ _ h => h) (Or.inl ⟨by rfl, ?_⟩) (by assumption) ?_
        rotate_left 1
        · intro w hSw; (try dsimp only at hSw); go_simp; try (with_reducible rfl)
        try simp only [Act.put, List.setIfInBounds_toArray, List.set_cons_zero, List.set_cons_succ]
        refine wpAnyT_take (i := 3) (oi := { dst := some 18, op := Op.binOp BinOp.shl 3 (Operand.const (Value.int IntKind.i64 1)) (Operand.tmp 17) 3, type := 3, pos := "l10_property.go:75", after := #[{ on := 2, ground := Ground.data }], guard := none }) (v := ?_) rfl (by kernel_rfl) (fun _ _ _ h => h) (Or.inl ⟨by rfl, ?_⟩) (by assumption) ?_
        rotate_left 1
        · intro w hSw; (try dsimp only at hSw); go_simp; try (with_reducible rfl)
        try simp only [Act.put, List.setIfInBounds_toArray, List.set_cons_zero, List.set_cons_succ]
        refine wpAnyT_take (i := 6) (oi := { dst := some 21, op := Op.move (Operand.tmp 6), type := 3, pos := "l10_property.go:75", after := #[], guard := none }) (v := ?_) rfl (by kernel_rfl) (fun _ _ _ h => h) (Or.inl ⟨by rfl, ?_⟩) (by assumption) ?_
        rotate_left 1
        · intro w hSw; (try dsimp only at hSw); go_simp; try (with_reducible rfl)
        try simp only [Act.put, List.setIfInBounds_toArray, List.set_cons_zero, List.set_cons_succ]
        refine wpAnyT_ready (rs := [4]) (by kernel_rfl) (by simp) ?_
        refine (AllReadyT.cons (o := { dst := some 19, op := Op.call { callee := Callee.value (Operand.func 19), args := #[Operand.tmp 16, Operand.tmp 18], argTypes := #[3, 3] }, type := 3, pos := "l10_property.go:75", after := #[{ on := 1, ground := Ground.data }, { on := 3, ground := Ground.data }], guard := none }) (rs := []) rfl (fun K hK => ?_) AllReadyT.nil)
        go_simp
        (refine (Hu.out _).mono ?_; rintro e w1 ⟨rfl, rfl⟩)
        refine hK.out _ _ ?_ (fun hHeld => ?_)
        · exact Cell.out _ hb0
        clear hK K
        try simp only [Act.put, List.setIfInBounds_toArray, List.set_cons_zero, List.set_cons_succ]
        refine wpAnyT_ready (rs := [5]) (by kernel_rfl) (by simp) ?_
        refine (AllReadyT.cons (o := { dst := some 20, op := Op.call { callee := Callee.value (Operand.func 18), args := #[Operand.tmp 15, Operand.tmp 19], argTypes := #[26, 3] }, type := 3, pos := "l10_property.go:75", after := #[{ on := 0, ground := Ground.data }, { on := 4, ground := Ground.data }, { on := 4, ground := Ground.chain }], guard := none }) (rs := []) rfl (fun K hK => ?_) AllReadyT.nil)
        go_simp
        (refine (Hv.out _ hb0).mono ?_; rintro e w2 ⟨rfl, kB⟩; have hb2 := hb0.trans (kB.mono hb0.size))
        refine hK.out _ _ ?_ (fun hHeld => ?_)
        · exact Cell.out _ hb2
        clear hK K
        try simp only [Act.put, List.setIfInBounds_toArray, List.set_cons_zero, List.set_cons_succ]
        refine wpAnyT_ready (rs := [7]) (by kernel_rfl) (by simp) ?_
        refine (AllReadyT.last (o := { dst := some 22, op := Op.binOp BinOp.neq 3 (Operand.tmp 20) (Operand.tmp 21) 3, type := 4, pos := "l10_property.go:75", after := #[{ on := 5, ground := Ground.data }, { on := 6, ground := Ground.data }], guard := none }) (rs := []) rfl (by rfl) (fun K hK => ?_) AllReadyT.nil)
        go_simp
        refine hK.out _ _ ?_
        clear hK K
        try simp only [Act.put, List.setIfInBounds_toArray, List.set_cons_zero, List.set_cons_succ]
        refine wpAnyT_done (by kernel_rfl) ?_ _
        go_wp2_with fail
        go_roundw
        case rel => exact ⟨s + 1, by omega, by go_num, hb2, HA2⟩
        case measure => simp [intOf]; omega
    · have Hr := Lib.hid (HYes.out (fun j hj => hA.out j (by omega)))
      go_wp2_with fail
      go_ret
      exact ⟨ret_bool Hr.out, HBl.out.trans (hB.out.mono hle)⟩
set_option maxRecDepth 100000 in
set_option maxHeartbeats 4000000 in
theorem impl_NullPlayers {w : World} {x y : Value} {g : G} (h : GmC w x y g) (hf : GmOk g) :
    Calls Try.prog 35 #[.agg #[x, y]] w (MakesInts (Pr.nullR g) w) := by
  have HX := Lib.hid (gm_box h 26).1
  have HBl := Lib.hid (gm_box h 26).2
  have HC := Lib.hid (CellsAt.new w #[x, y] 26)
  obtain ⟨W, hW⟩ : ∃ W, W = w.alloc (.cells #[x, y] 26) := ⟨_, rfl⟩
  rw [← hW] at HX HBl HC
  have HF := Lib.hid hf
  have HW := Lib.hid hW
  have hle : w.heap.size ≤ W.heap.size := HBl.out.size
  have hnn := hf.n
  rcases hv : Gm.vld g with _ | _
  · have HV := Lib.hid hv
    have Hr := Lib.hid (Pr.nullR_no hv)
    obtain ⟨m0, m1⟩ := two HC.out
    rw [Hr.out]
    clear hv h hf hW
    go_enter Try.func35, Try.ntmps35
    go_wp2_with fail
    rw [← HW.out]
    clear HW
    refine (impl_IsValidGame false HV.out HX.out HF.out).mono ?_
    rintro e w1 ⟨rfl, k⟩
    have HB2 := Lib.hid (HBl.out.trans (k.mono HBl.out.size))
    clear k m0 m1
    go_wp2_with fail
    go_ret
    exact ⟨_, rfl, OwnInts.nil _ _, HB2.out⟩
  · have HV := Lib.hid hv
    have hn5 := Gm.vld_n hv
    have Hr := Lib.hid (Pr.nullR_yes hv)
    have HNul := Lib.hid (fun (k : Nat) (hk : (k : Int) < g.n) (r : Bool) (hr : Pr.nul g k = r) (W' : World) (hb : Below W.heap.size W W') => impl_isNull k hk hv r hr (HX.out.up hb) HF.out)
    obtain ⟨K, hK⟩ : ∃ K : Nat, g.n = K := ⟨g.n.toNat, by omega⟩
    have hx0 := HX.out
    obtain ⟨a, c, rfl, rfl, _⟩ := hx0
    rw [hK] at HNul HC HW HX hn5
    rw [hK, Int.toNat_natCast] at Hr
    rw [Hr.out, hK]
    have hK5 : K ≤ 5 := by omega
    obtain ⟨i0, hi0, hz0, hz1, hz2⟩ := info_parts info_int
    have HInf := Lib.hid hi0
    have HZ0 := Lib.hid hz0
    have HZ1 := Lib.hid hz1
    have HZ2 := Lib.hid hz2
    obtain ⟨m0, m1⟩ := two HC.out
    generalize g.v.length = N at *
    clear hv h hf hW hi0 hz0 hz1 hz2 hnn hK
    go_enter Try.func35, Try.ntmps35
    go_wp2_with fail
    rw [← HW.out]
    clear HW
    refine (impl_IsValidGame true HV.out HX.out HF.out).mono ?_
    rintro e w1 ⟨rfl, k⟩
    have HB0 := Lib.hid k
    obtain ⟨m2, m3⟩ := two (HC.out.below k)
    clear k m0 m1
    go_wp2_with fail
    go_loopw [3, 10] (fun v i wr => ∃ k : Nat, k ≤ K ∧ i = .int .i64 k ∧ Hid (OwnInts W.heap.size wr v (Pr.nulls g k)) ∧ Hid (Below W.heap.size W wr)) (fun _ i _ => K - (intOf i).toNat)
    case atStart => exact ⟨0, Nat.zero_le _, rfl, OwnInts.nil _ _, HB0⟩
    case round =>
      obtain ⟨k, hk, rfl, hO, hB⟩ := hrel
      clear m2 m3 HB0
      by_cases hlt : k < K
      · obtain ⟨m2, m3⟩ := two (HC.out.below hB.out)
        rcases hnu : Pr.nul g k with _ | _
        · have He := Lib.hid (Pr.nulls_no hnu)
          have HCall := Lib.hid (HNul.out k (by omega) false hnu _ hB.out)
          clear hnu
          go_wp2_with fail
          refine HCall.out.mono ?_
          rintro e w1 ⟨rfl, kB⟩
          have HB1 := Lib.hid (hB.out.trans (kB.mono hB.out.size))
          have HO1 := Lib.hid (hO.out.below kB)
          clear kB
          go_wp2_with fail
          go_roundw
          case rel => exact ⟨k + 1, by omega, by go_num, by rw [He.out]; exact HO1, HB1⟩
          case measure => simp [intOf]; omega
        · have He := Lib.hid (Pr.nulls_yes hnu)
          have HCall := Lib.hid (HNul.out k (by omega) true hnu _ hB.out)
          have hlen := Pr.nulls_len g k
          clear hnu
          go_wp2_with fail
          refine HCall.out.mono ?_
          rintro e w1 ⟨rfl, kB⟩
          have HB1 := Lib.hid (hB.out.trans (kB.mono hB.out.size))
          have HO1 := Lib.hid (hO.out.below kB)
          have hsz := HB1.out.size
          have Hown := Lib.hid (World.ownsRow.alloc HO1.out (.cells #[.int .i64 k] 3))
          clear kB m2 m3
          generalize Pr.nulls g k = xs at *
          go_wp2_with (at_builtin; refine wpList_append_own _ rfl _ _ 24 rfl W.heap.size 3 i0 (.int .i64 0) 1 8 Try.underlying24 HInf.out HZ0.out HZ1.out HZ2.out rfl (by decide) _ _ _ rfl Hown.out ⟨w1.heap.size, 0, none⟩ 1 1 [.int .i64 k] rfl rfl ?c1 ?c2 ?c3 ?c4 ?c5 ?_)
          case c1 =>
            intro j u hj
            match j, hj with
            | 0, hj => simp at hj; subst hj; simp [Addr.add]
          case c2 => intro u hu; simp at hu; subst hu; rfl
          case c3 => unfold maxLen; omega
          case c4 => omega
          case c5 => simp; omega
          intro v' w2 hown' hgrow _
          have Ho1 := Lib.hid (OwnInts.more hown')
          have Hb1 := Lib.hid ((HB1.out.alloc hsz _).grown hgrow (by simp; omega) (fun g hg => (Hown.out.lt g hg).1))
          rw [← He.out] at Ho1
          clear hown' hgrow
          go_wp2_with fail
          go_roundw
          case rel => exact ⟨k + 1, by omega, by go_num, Ho1, Hb1⟩
          case measure => simp [intOf]; omega
      · have he : k = K := by omega
        subst he
        have HF1 := Lib.hid (OwnInts.raise2 (B' := w.heap.size) hO.out hle)
        have HB1 := Lib.hid (HBl.out.trans (hB.out.mono hle))
        go_wp2_with fail
        go_ret
        exact ⟨_, rfl, HF1.out, HB1.out⟩
end Go.Proofs.Ytodjapljoimkgaa
