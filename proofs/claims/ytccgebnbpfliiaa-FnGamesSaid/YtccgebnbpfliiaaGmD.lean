/- impl: a header's build, from a function value. -/
import Derived.Test.YtccgebnbpfliiaaGmI
import Derived.Test.YtccgebnbpfliiaaGmC
import Derived.Shelf.Abstract
namespace Go.Proofs.Ytccgebnbpfliiaa
open Go.RowKit
open Gm (G)
theorem mk_zero (n : Int) (f : Nat → Int) : (Gm.mk n f 0).v = [] := rfl
set_option maxRecDepth 100000 in
set_option maxHeartbeats 4000000 in
theorem impl_build (m : Nat) (hm1 : 1 ≤ m) (hm5 : m ≤ 5) (f : Nat → Int) (F : Nat) (hF : ∀ (args : Array Value) (w : World), (callFunc F args).run Try.prog w = .ok (.enter F args) w) (r x y : Value) (w : World)
    (hv : ∀ (w' : World) (s : Nat), s < 2 ^ m → Below w.heap.size w w' → Calls Try.prog F #[r, .int .i64 s] w' fun e w'' => e = .returned (.int .i64 (f s)) ∧ Below w'.heap.size w' w'') :
    Calls Try.prog 42 #[.agg #[.int .i64 m, x, y], .func (.func F) #[r] #[]] w (MakesGm (Gm.keep (Gm.mk m f (2 ^ m))) w) := by
  obtain ⟨R, hR⟩ : ∃ R, Gm.keep (Gm.mk m f (2 ^ m)) = R := ⟨_, rfl⟩
  rw [hR]
  have HR0 := Lib.hid hR
  have HV := Lib.hid hv
  have HC := Lib.hid (fun W => impl_CountCoalitions m hm5 W)
  have hp : 2 ^ m ≤ 32 := Nat.pow_le_pow_right (by omega) hm5
  obtain ⟨N, hN⟩ : ∃ N, 2 ^ m = N := ⟨_, rfl⟩
  rw [hN] at HR0 HV HC hp
  clear hv hR hN
  obtain ⟨W, hW⟩ : ∃ W, W = ((w.alloc (.cells #[.int .i64 m, x, y] 58)).alloc (.cells #[.int .i64 0, .slice none 0 0] 26)).alloc (.cells #[.int .i64 m, .slice none 0 0] 26) := ⟨_, rfl⟩
  have hc1 := (CellsAt.new (w.alloc (.cells #[.int .i64 m, x, y] 58)) #[.int .i64 0, .slice none 0 0] 26).more (.cells #[.int .i64 m, .slice none 0 0] 26)
  rw [size1, ← hW] at hc1
  have hc2 := CellsAt.new ((w.alloc (.cells #[.int .i64 m, x, y] 58)).alloc (.cells #[.int .i64 0, .slice none 0 0] 26)) #[.int .i64 m, .slice none 0 0] 26
  rw [size2, ← hW] at hc2
  have hb := (((Below.refl w.heap.size w).alloc (Nat.le_refl _) (.cells #[.int .i64 m, x, y] 58)).alloc (by rw [size1]; omega) (.cells #[.int .i64 0, .slice none 0 0] 26)).alloc (by rw [size2]; omega) (.cells #[.int .i64 m, .slice none 0 0] 26)
  rw [← hW] at hb
  have hsz : W.heap.size = w.heap.size + 3 := by rw [hW, size1, size2]
  have HC1 := Lib.hid hc1
  have HC2 := Lib.hid hc2
  have HB := Lib.hid hb
  have HSz := Lib.hid hsz
  have HW := Lib.hid hW
  have hW0 : Hid (OwnInts W.heap.size W (.slice none 0 0) (Gm.mk m f 0).v) := World.ownsRow_nil _ _ _ _
  clear hc1 hc2 hb hsz hW
  go_enter Try.func42, Try.ntmps42
  go_wp2_with fail
  refine (HC.out _).mono ?_
  rintro e w1 ⟨rfl, rfl⟩
  rw [← HW.out]
  clear HW
  go_wp2_with fail
  go_loopw [7, 14] (fun _ i wr => ∃ (k : Nat) (v : Value), k ≤ N ∧ i = .int .i64 k ∧ Hid (CellsAt wr (w.heap.size + 1 + 1) #[.int .i64 m, v] 26) ∧ Hid (CellsAt wr (w.heap.size + 1) #[.int .i64 0, .slice none 0 0] 26) ∧ Hid (OwnInts W.heap.size wr v (Gm.mk m f k).v) ∧ Hid (Below w.heap.size w wr) ∧ W.heap.size ≤ wr.heap.size) (fun _ i _ => N - (intOf i).toNat)
  case atStart => exact ⟨0, _, Nat.zero_le _, rfl, HC2, HC1, hW0, HB, Nat.le_refl _⟩
  case round =>
    obtain ⟨k, v, hk, rfl, hQ, hZ, hO, hB, hsw⟩ := hrel
    have hws := HSz.out
    by_cases hlt : k < N
    · obtain ⟨q0, q1, f0, f1⟩ := two' hQ.out
      have hne : v.ownBlock ≠ some (w.heap.size + 1 + 1) := own_apart hO.out hQ.out.ty (by decide)
      have hne2 : v.ownBlock ≠ some (w.heap.size + 1) := own_apart hO.out hZ.out.ty (by decide)
      have HX1 := Lib.hid (Gm.mk_more m f k)
      have hxl := Gm.mk_len m f k
      have hxl2 := Gm.mk_len m f (k + 1)
      have Cell := Lib.hid (fun w' (h : wr.grownBy w' v.ownBlock) => (show w'.cell? ⟨w.heap.size + 1 + 1, 1, none⟩ = some v ∧ wr.grownBy w' v.ownBlock from ⟨gr_cell (p := ⟨w.heap.size + 1 + 1, 1, none⟩) h (lt_of_at hQ.out) hne q1, h⟩))
      have hg0 : wr.grownBy wr.drew v.ownBlock := gr_drew (World.grownBy.refl _ _)
      have hsn := (Since.refl wr).drew
      have Hq := Lib.hid (And.intro hne hne2)
      have HXL := Lib.hid hxl
      have HXL2 := Lib.hid hxl2
      have HCall := Lib.hid (HV.out wr.drew k hlt hB.out.drew)
      generalize f k = z at *
      clear q0 q1 f0 f1 hne hne2 hxl hxl2 HC1 HC2 HB
      go_upto_region 5 with fail
      refine wp_region_T_drew (S := (fun w' => w'.cell? ⟨w.heap.size + 1 + 1, 1, none⟩ = some v ∧ wr.grownBy w' v.ownBlock)) 8 (by kernel_rfl) ?_ (fun hHeld => ?_)
      · exact Cell.out _ hg0
      refine wpAnyT_take (i := 0) (oi := { dst := some 17, op := Op.fieldAddr 26 (Operand.tmp 6) 1, type := 0, pos := "l08_game.go:49", after := #[], guard := none }) (v := ?_) rfl (by kernel_rfl) (fun _ _ _ h => h) (Or.inl ⟨by rfl, ?_⟩) (by assumption) ?_
      rotate_left 1
      · intro w hSw; (try dsimp only at hSw); go_simp; try (with_reducible rfl)
      try simp only [Act.put, List.setIfInBounds_toArray, List.set_cons_zero, List.set_cons_succ]
      refine wpAnyT_take (i := 1) (oi := { dst := some 18, op := Op.load 24 (Operand.tmp 17), type := 24, pos := "l08_game.go:49", after := #[{ on := 0, ground := Ground.data }], guard := none }) (v := ?_) rfl (by kernel_rfl) (fun _ _ _ h => h) (Or.inl ⟨by rfl, ?_⟩) (by assumption) ?_
      rotate_left 1
      · intro w hSw; (try dsimp only at hSw); go_simp; try (with_reducible rfl)
      try simp only [Act.put, List.setIfInBounds_toArray, List.set_cons_zero, List.set_cons_succ]
      refine wpAnyT_take (i := 2) (oi := { dst := some 19, op := Op.move (Operand.tmp 1), type := 40, pos := "l08_game.go:49", after := #[], guard := none }) (v := ?_) rfl (by kernel_rfl) (fun _ _ _ h => h) (Or.inl ⟨by rfl, ?_⟩) (by assumption) ?_
      rotate_left 1
      · intro w hSw; (try dsimp only at hSw); go_simp; try (with_reducible rfl)
      try simp only [Act.put, List.setIfInBounds_toArray, List.set_cons_zero, List.set_cons_succ]
      refine wpAnyT_take (i := 3) (oi := { dst := some 20, op := Op.move (Operand.tmp 7), type := 3, pos := "l08_game.go:49", after := #[], guard := none }) (v := ?_) rfl (by kernel_rfl) (fun _ _ _ h => h) (Or.inl ⟨by rfl, ?_⟩) (by assumption) ?_
      rotate_left 1
      · intro w hSw; (try dsimp only at hSw); go_simp; try (with_reducible rfl)
      try simp only [Act.put, List.setIfInBounds_toArray, List.set_cons_zero, List.set_cons_succ]
      refine wpAnyT_ready (rs := [4]) (by kernel_rfl) (by simp) ?_
      refine (AllReadyT.cons (o := { dst := some 21, op := Op.call { callee := Callee.value (Operand.tmp 19), args := #[Operand.tmp 20], argTypes := #[3] }, type := 3, pos := "l08_game.go:49", after := #[{ on := 2, ground := Ground.data }, { on := 3, ground := Ground.data }], guard := none }) (rs := []) rfl (fun K hK => ?_) AllReadyT.nil)
      go_simp
      (refine HCall.out.mono ?_; rintro e w2 ⟨rfl, hb2⟩; have hg2 := gr_below hg0 hb2)
      refine hK.out _ _ ?_ (fun hHeld => ?_)
      · exact Cell.out _ hg2
      clear hK K
      try simp only [Act.put, List.setIfInBounds_toArray, List.set_cons_zero, List.set_cons_succ]
      have hs2 := hsn.trans hb2
      have hg3 := gr_alloc hg2 (.cells #[.int .i64 z] 3)
      have hs3 := hs2.alloc (.cells #[.int .i64 z] 3)
      have hO3 := hO.out.below hs3.low
      have hn3 := one_num w2 z
      refine wpAnyT_ready (rs := [5]) (by kernel_rfl) (by simp) ?_
      refine (AllReadyT.cons (o := { dst := some 22, op := Op.buildSlice 24 1 #[(0, Operand.tmp 21)], type := 24, pos := "l08_game.go:49", after := #[{ on := 4, ground := Ground.data }], guard := none }) (rs := []) rfl (fun K hK => ?_) AllReadyT.nil)
      go_simp
      refine hK.out _ _ ?_ (fun hHeld => ?_)
      · exact Cell.out _ hg3
      clear hK K
      try simp only [Act.put, List.setIfInBounds_toArray, List.set_cons_zero, List.set_cons_succ]
      refine wpAnyT_ready (rs := [6]) (by kernel_rfl) (by simp) ?_
      refine (AllReadyT.cons (o := { dst := some 23, op := Op.call { callee := Callee.builtin Builtin.append, args := #[Operand.tmp 18, Operand.tmp 22], argTypes := #[24, 24] }, type := 24, pos := "l08_game.go:49", after := #[{ on := 1, ground := Ground.data }, { on := 5, ground := Ground.data }, { on := 4, ground := Ground.chain }], guard := none }) (rs := []) rfl (fun K hK => ?_) AllReadyT.nil)
      (refine step_append_ints rfl _ _ rfl W.heap.size v (Gm.mk m f k).v rfl hO3 (some ⟨w2.heap.size, 0, none⟩) [z] _ _ rfl rfl (w2.heap.size + 1) hn3 (by simp only [List.length_singleton]; have := HXL.out; omega) (by have := hs3.low.size; omega) ?_; intro v' w' hown hgrow; rw [← HX1.out] at hown; obtain ⟨av, cv, rfl⟩ := ints_shape hown; rw [HXL2.out]; rw [HXL2.out] at hown; have hg4 := gr_trans hg3 hgrow)
      refine hK.out _ _ ?_ (fun hHeld => ?_)
      · exact Cell.out _ hg4
      clear hK K
      try simp only [Act.put, List.setIfInBounds_toArray, List.set_cons_zero, List.set_cons_succ]
      refine wpAnyT_take (i := 7) (oi := { dst := some 24, op := Op.fieldAddr 26 (Operand.tmp 6) 1, type := 0, pos := "l08_game.go:49", after := #[{ on := 0, ground := Ground.phase }, { on := 1, ground := Ground.phase }, { on := 2, ground := Ground.phase }, { on := 3, ground := Ground.phase }, { on := 4, ground := Ground.phase }, { on := 5, ground := Ground.phase }, { on := 6, ground := Ground.phase }], guard := none }) (v := ?_) rfl (by kernel_rfl) (fun _ _ _ h => h) (Or.inl ⟨by rfl, ?_⟩) (by assumption) ?_
      rotate_left 1
      · intro w hSw; (try dsimp only at hSw); go_simp; try (with_reducible rfl)
      try simp only [Act.put, List.setIfInBounds_toArray, List.set_cons_zero, List.set_cons_succ]
      have hQ4 : CellsAt w' (w.heap.size + 1 + 1) #[.int .i64 m, v] 26 := (hg4.block _ (lt_of_at hQ.out) (fun e => Hq.out.1 e.symm)).trans hQ.out
      have hZ4 : CellsAt w' (w.heap.size + 1) #[.int .i64 0, .slice none 0 0] 26 := (hg4.block _ (lt_of_at hZ.out) (fun e => Hq.out.2 e.symm)).trans hZ.out
      obtain ⟨y0, y1, e0, e1⟩ := two' hQ4
      refine wpAnyT_ready (rs := [8]) (by kernel_rfl) (by simp) ?_
      refine (AllReadyT.last (o := { dst := none, op := Op.store 24 (Operand.tmp 24) (Operand.tmp 23), type := 0, pos := "l08_game.go:49", after := #[{ on := 7, ground := Ground.data }, { on := 6, ground := Ground.data }, { on := 6, ground := Ground.chain }, { on := 0, ground := Ground.phase }, { on := 1, ground := Ground.phase }, { on := 2, ground := Ground.phase }, { on := 3, ground := Ground.phase }, { on := 4, ground := Ground.phase }, { on := 5, ground := Ground.phase }, { on := 6, ground := Ground.phase }], guard := none }) (rs := []) rfl (by rfl) (fun K hK => ?_) AllReadyT.nil)
      go_simp
      refine hK.out _ _ ?_
      clear hK K
      refine wpAnyT_done (by kernel_rfl) ?_ _
      have hb4 := below_gr (B := w.heap.size) hB.out hg4 (by omega) (fun g hg => by have := (World.ownsRow.lt hO.out g hg).1; omega)
      have HQ5 := Lib.hid (hQ4.s1 (.slice av (k + 1) cv))
      have HZ5 := Lib.hid (hZ4.other (p := ⟨w.heap.size + 1 + 1, 1, none⟩) (show w.heap.size + 1 + 1 ≠ w.heap.size + 1 by omega) (.slice av (k + 1) cv))
      have HO5 : Hid (OwnInts W.heap.size (w'.setCell ⟨w.heap.size + 1 + 1, 1, none⟩ (.slice av (k + 1) cv)) (.slice av (k + 1) cv) (Gm.mk m f (k + 1)).v) := owns_set (i := 1) (u := .slice av (k + 1) cv) hown (own_apart hown hQ4.ty (by decide))
      have HB5 := Lib.hid (hb4.setCell (p := ⟨w.heap.size + 1 + 1, 1, none⟩) (by simp only; omega) (.slice av (k + 1) cv))
      have hsz5 : W.heap.size ≤ w'.heap.size := by have := hg4.size; omega
      clear y0 y1 e0 e1 hQ4 hZ4 hown hgrow hg4 hg3 hs3 hO3 hn3 hb2 hg2 hs2 Cell hg0 hsn hb4
      go_wp2_with fail
      go_roundw
      case rel => exact ⟨k + 1, _, by omega, by go_num, HQ5, HZ5, HO5, HB5, by simpa [World.setCell] using hsz5⟩
      case measure => simp [intOf]; omega
    · have hke : k = N := by omega
      subst hke
      have hml := Gm.mk_len m f k
      obtain ⟨av, cv, rfl⟩ := ints_shape hO.out
      obtain ⟨X, hX⟩ : ∃ X, Gm.mk m f k = X := ⟨_, rfl⟩
      have hXn : X.n = (m : Int) := by rw [← hX]; rfl
      rw [hX] at hO hml HR0
      have HGX : Hid (GmC wr (.int .i64 m) (.slice av X.v.length cv) X) := by rw [← hXn]; exact GmC.of_own hO.out
      have HFX : Hid (GmOk X) := ⟨by omega, by rw [hXn]; have e1 : IntKind.i64.min = -9223372036854775808 := rfl; have e2 : IntKind.i64.max = 9223372036854775807 := rfl; simp [Lit.wf, e1, e2]; omega⟩
      have HXn := Lib.hid hXn
      rw [hX] at hQ
      obtain ⟨o0, o1⟩ := two hQ.out
      have hml2 : X.v.length ≤ 32 := by omega
      clear hX hXn hml HC1 HC2 HB
      generalize hXl : X.v.length = L at *
      rcases hvx : Gm.vld X with _ | _
      · have HVX := Lib.hid hvx
        have Hr2 := Lib.hid ((Gm.keep_no hvx).symm.trans HR0.out)
        clear hvx hXl
        go_wp2_with fail
        refine (impl_IsValidGame false HVX.out HGX.out HFX.out).mono ?_
        rintro e w5 ⟨rfl, k5⟩
        have HB6 := Lib.hid (hB.out.trans (k5.mono hB.out.size))
        have HC6 := Lib.hid (hZ.out.below k5)
        clear k5 o0 o1
        have HR := Lib.hid ((HC6.out.s0 (.int .i64 0)).s1 (.slice none 0 0))
        have HB7 := Lib.hid ((HB6.out.setCell (p := ⟨w.heap.size + 1, 0, none⟩) (Nat.le_succ _) (.int .i64 0)).setCell (p := ⟨w.heap.size + 1, 1, none⟩) (Nat.le_succ _) (.slice none 0 0))
        obtain ⟨d0, d1, e0, e1⟩ := two' HC6.out
        go_wp2_with fail
        refine bodyPost_ret (v := .tuple #[.agg #[.int .i64 0, .slice none 0 0], .bool false]) (by
          obtain ⟨z0, z1⟩ := two HR.out
          revert z0 z1
          generalize ((w5.setCell ⟨w.heap.size + 1, 0, none⟩ (.int .i64 0)).setCell ⟨w.heap.size + 1, 1, none⟩ (.slice none 0 0)) = W4
          intro z0 z1
          simp [results, Try.results42, go_sem, z0, z1]) rfl (by rw [← Hr2.out]; exact ⟨⟨_, _, rfl, ResGm.zero _ _⟩, HB7.out⟩)
      · have HVX := Lib.hid hvx
        have Hr2 := Lib.hid ((Gm.keep_yes hvx).symm.trans HR0.out)
        have HXl := Lib.hid hXl
        clear hvx hXl
        go_wp2_with fail
        refine (impl_IsValidGame true HVX.out HGX.out HFX.out).mono ?_
        rintro e w5 ⟨rfl, k5⟩
        have HB6 := Lib.hid (hB.out.trans (k5.mono hB.out.size))
        have HC6 := Lib.hid (hZ.out.below k5)
        have HX6 := Lib.hid (hO.out.below k5)
        obtain ⟨o2, o3⟩ := two (hQ.out.below k5)
        obtain ⟨d0, d1, e0, e1⟩ := two' HC6.out
        have HR := Lib.hid ((HC6.out.s0 (.int .i64 m)).s1 (.slice av L cv))
        have hne2 : (Value.slice av L cv).ownBlock ≠ some (w.heap.size + 1) := own_apart HX6.out HC6.out.ty (by decide)
        have HY := Lib.hid (owns_set (i := 1) (u := .slice av L cv) (owns_set (i := 0) (u := .int .i64 m) HX6.out hne2) hne2)
        have HB7 := Lib.hid ((HB6.out.setCell (p := ⟨w.heap.size + 1, 0, none⟩) (Nat.le_succ _) (.int .i64 m)).setCell (p := ⟨w.heap.size + 1, 1, none⟩) (Nat.le_succ _) (.slice av L cv))
        clear k5 o0 o1 hne2
        go_wp2_with fail
        refine bodyPost_ret (v := .tuple #[.agg #[.int .i64 m, .slice av L cv], .bool true]) (by
          obtain ⟨z0, z1⟩ := two HR.out
          revert z0 z1
          generalize ((w5.setCell ⟨w.heap.size + 1, 0, none⟩ (.int .i64 m)).setCell ⟨w.heap.size + 1, 1, none⟩ (.slice av L cv)) = W4
          intro z0 z1
          simp [results, Try.results42, go_sem, z0, z1]) rfl (by rw [← Hr2.out]; exact ⟨⟨_, _, rfl, ResGm.of_own' HXn.out (OwnInts.raise2 (B' := w.heap.size) HY.out (by omega))⟩, HB7.out⟩)
end Go.Proofs.Ytccgebnbpfliiaa
