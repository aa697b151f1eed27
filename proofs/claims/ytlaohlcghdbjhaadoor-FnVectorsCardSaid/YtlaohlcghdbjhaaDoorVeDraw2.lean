/- The draw of AddScaled's arguments. -/
import Derived.Test.YtlaohlcghdbjhaaDoorVeDraw
import Derived.Test.YtlaohlcghdbjhaaDoorVeS
import Derived.Deep.RegionHeld
namespace Go.Proofs.YtlaohlcghdbjhaaDoor
open Go.RowKit
open Ve (R)
def DrewScaled (w : World) (e : Ending) (w' : World) : Prop :=
  ∃ (va vb : Value) (xs ys : List R) (u : R), e = .returned (.tuple #[va, .agg #[.int .i64 u.1, .int .i64 u.2], vb]) ∧ xs.length ≤ 3 ∧ ys.length ≤ 4 ∧ OwnRats w.heap.size w' va xs ∧ OwnRats w.heap.size w' vb ys ∧ Below w.heap.size w w'
theorem BoxAt.only {w w' : World} {p q : Nat} {x : R} (h : BoxAt w q x) (ho : Only p w w') (hne : q ≠ p) : BoxAt w' q x := (ho.block hne h.lt).trans h
theorem BoxAt.drew {w : World} {p : Nat} {x : R} (h : BoxAt w p x) : BoxAt w.drew p x := h
set_option maxRecDepth 100000 in
set_option maxHeartbeats 4000000 in
theorem spec_DrawAddScaled (a : Option Addr) (len cap : Nat) (w : World) (hcode : CodeAt w.heap.size w a len) :
    Calls Tryd.prog 6 #[.slice a len cap] w (DrewScaled w) := by
  have hb0 := (Below.refl w.heap.size w).alloc (Nat.le_refl _) (.cells #[.int .i64 0, .int .i64 0] 26)
  have HB0 := Lib.hid hb0
  have HR0 := Lib.hid (BoxAt.new w (0, 0))
  have Hc := Lib.hid hcode
  have hs0 := size1 w (.cells #[.int .i64 0, .int .i64 0] 26)
  have Hs0 := Lib.hid hs0
  clear hb0 hs0 hcode
  go_enter Tryd.func6, Tryd.ntmps6
  go_wp2_with fail
  refine (spec_l1New w.heap.size a len cap _ (Hc.out.below HB0.out)).mono ?_
  rintro e w1 ⟨rfl, hc1, hb1, hsz1⟩
  rw [Hs0.out] at hc1 hb1 hsz1 ⊢
  have HU1 := Lib.hid hc1
  have HB1 := Lib.hid (HB0.out.trans (hb1.mono (by omega)))
  have HR1 := Lib.hid (show BoxAt w1 w.heap.size (0, 0) from (hb1.block w.heap.size (by omega)).trans HR0.out)
  have hz1 : w.heap.size + 2 ≤ w1.heap.size := by omega
  clear hc1 hb1 hsz1 HB0 HR0 Hs0
  go_wp2_with fail
  refine (spec_l1Below w.heap.size (w.heap.size + 1) a len cap 4 (by decide) (by decide) w1 (by omega) HU1.out (Hc.out.below HB1.out)).mono ?_
  rintro e w2 ⟨x, rfl, hx0, hx1, hc2, ho2⟩
  obtain ⟨n, rfl⟩ : ∃ n : Nat, x = n := ⟨x.toNat, by omega⟩
  have hn : n ≤ 3 := by omega
  have HU2 := Lib.hid hc2
  have HB2 := Lib.hid (HB1.out.trans (ho2.below (by omega)))
  have HR2 := Lib.hid (HR1.out.only ho2 (by omega))
  have hz2 : w.heap.size + 2 ≤ w2.heap.size := Nat.le_trans hz1 ho2.low.size
  clear hc2 ho2 hx0 hx1 HU1 HB1 HR1 hz1
  go_wp2_with fail
  refine (spec_l4Draw w.heap.size (w.heap.size + 1) n (by omega) a len cap w2 (by omega) HU2.out (Hc.out.below HB2.out)).mono ?_
  rintro e w3 ⟨va, xs, rfl, hxl, hoa, hc3, ho3⟩
  have HXL := Lib.hid hxl
  have HU3 := Lib.hid hc3
  have HB3 := Lib.hid (HB2.out.trans (ho3.below (by omega)))
  have HR3 := Lib.hid (HR2.out.only ho3 (by omega))
  have HA3 := Lib.hid (hoa.lower hz2)
  have hz3 : w.heap.size + 2 ≤ w3.heap.size := Nat.le_trans hz2 ho3.low.size
  clear hc3 ho3 hoa hxl HU2 HB2 HR2 hz2
  go_wp2_with fail
  refine (spec_l3Draw w.heap.size (w.heap.size + 1) a len cap w3 (by omega) HU3.out (Hc.out.below HB3.out)).mono ?_
  rintro e w4 ⟨un, ud, rfl, hc4, ho4⟩
  have hz4 : w.heap.size + 2 ≤ w4.heap.size := Nat.le_trans hz3 ho4.low.size
  have HU4 := Lib.hid (hc4.alloc (.cells #[.int .i64 un, .int .i64 ud] 26))
  have hb4 := HB3.out.trans (ho4.below (by omega))
  have HB4 := Lib.hid (hb4.alloc hb4.size (.cells #[.int .i64 un, .int .i64 ud] 26))
  have HR4 := Lib.hid ((HR3.out.only ho4 (by omega)).alloc (.cells #[.int .i64 un, .int .i64 ud] 26))
  have HA4 := Lib.hid ((HA3.out.only ho4 (by omega)).alloc (.cells #[.int .i64 un, .int .i64 ud] 26))
  have HK4 := Lib.hid (BoxAt.new w4 (un, ud))
  clear hc4 ho4 hb4 HU3 HB3 HR3 HA3 hz3
  go_wp2_with fail
  obtain ⟨wA, hwA⟩ : ∃ wA, w4.alloc (.cells #[.int .i64 un, .int .i64 ud] 26) = wA := ⟨_, rfl⟩
  rw [hwA] at HU4 HB4 HR4 HA4 HK4 ⊢
  have hzA : w4.heap.size + 1 ≤ wA.heap.size := by rw [← hwA, size1]; omega
  clear hwA
  have Hq := Lib.hid HK4.out.four
  refine wp_region_held_drew (S := (fun w' => w'.cell? ⟨w4.heap.size, 0, none⟩ = some (.int .i64 un) ∧ w'.cell? ⟨w4.heap.size, 1, none⟩ = some (.int .i64 ud))) (by kernel_rfl) ?_ (fun hHeld => ?_)
  · exact ⟨Hq.out.1, Hq.out.2.1⟩
  obtain ⟨wD, hwD⟩ : ∃ wD, wA.drew = wD := ⟨_, rfl⟩
  have HU5 : Hid (Cur wD (w.heap.size + 1) a len cap) := by rw [← hwD]; exact HU4
  have HB5 : Hid (Below w.heap.size w wD) := by rw [← hwD]; exact HB4.out.drew
  have HR5 : Hid (BoxAt wD w.heap.size (0, 0)) := by rw [← hwD]; exact HR4
  have HA5 : Hid (OwnRats (w.heap.size + 2) wD va xs) := by rw [← hwD]; exact HA4
  have HK5 : Hid (BoxAt wD w4.heap.size (un, ud)) := by rw [← hwD]; exact HK4
  have hz5 : w4.heap.size + 1 ≤ wD.heap.size := by rw [← hwD]; exact hzA
  try rw [hwD] at hHeld
  rw [hwD]
  clear hwD HU4 HB4 HR4 HA4 HK4 hzA
  refine wpAnyH_take (i := 0) (oi := { dst := some 18, op := Op.move (Operand.tmp 7), type := 24, pos := "l04_vector.go:104", after := #[], guard := none }) (v := ?_) rfl (by kernel_rfl) (by kernel_rfl) (by kernel_rfl) (fun _ _ _ h => h) (Or.inl ⟨by rfl, ?_⟩) (by assumption) ?_
  rotate_left 1
  · intro w hSw; (try dsimp only at hSw); go_simp; try (with_reducible rfl)
  try simp only [Act.put, List.setIfInBounds_toArray, List.set_cons_zero, List.set_cons_succ]
  refine wpAnyH_take (i := 1) (oi := { dst := some 19, op := Op.load 26 (Operand.tmp 8), type := 26, pos := "l04_vector.go:104", after := #[{ on := 9, ground := Ground.gcOnly Departure.lateStores }], guard := none }) (v := ?_) rfl (by kernel_rfl) (by kernel_rfl) (by kernel_rfl) (fun _ _ _ h => h) (Or.inl ⟨by rfl, ?_⟩) (by assumption) ?_
  rotate_left 1
  · intro w hSw; (try dsimp only at hSw); go_simp; try (with_reducible rfl)
  try simp only [Act.put, List.setIfInBounds_toArray, List.set_cons_zero, List.set_cons_succ]
  refine wpAnyH_take (i := 2) (oi := { dst := some 20, op := Op.move (Operand.tmp 5), type := 44, pos := "l04_vector.go:104", after := #[], guard := none }) (v := ?_) rfl (by kernel_rfl) (by kernel_rfl) (by kernel_rfl) (fun _ _ _ h => h) (Or.inl ⟨by rfl, ?_⟩) (by assumption) ?_
  rotate_left 1
  · intro w hSw; (try dsimp only at hSw); go_simp; try (with_reducible rfl)
  try simp only [Act.put, List.setIfInBounds_toArray, List.set_cons_zero, List.set_cons_succ]
  refine wpAnyH_take (i := 3) (oi := { dst := some 21, op := Op.move (Operand.tmp 6), type := 3, pos := "l04_vector.go:104", after := #[], guard := none }) (v := ?_) rfl (by kernel_rfl) (by kernel_rfl) (by kernel_rfl) (fun _ _ _ h => h) (Or.inl ⟨by rfl, ?_⟩) (by assumption) ?_
  rotate_left 1
  · intro w hSw; (try dsimp only at hSw); go_simp; try (with_reducible rfl)
  try simp only [Act.put, List.setIfInBounds_toArray, List.set_cons_zero, List.set_cons_succ]
  refine wpAnyH_take (i := 4) (oi := { dst := some 22, op := Op.move (Operand.tmp 5), type := 44, pos := "l04_vector.go:104", after := #[], guard := none }) (v := ?_) rfl (by kernel_rfl) (by kernel_rfl) (by kernel_rfl) (fun _ _ _ h => h) (Or.inl ⟨by rfl, ?_⟩) (by assumption) ?_
  rotate_left 1
  · intro w hSw; (try dsimp only at hSw); go_simp; try (with_reducible rfl)
  try simp only [Act.put, List.setIfInBounds_toArray, List.set_cons_zero, List.set_cons_succ]
  have HK6 := Lib.hid (HK5.out.alloc (.cells #[.int .i64 0, .int .i64 0, .int .i64 0, .int .i64 1] 3))
  refine wpAnyH_ready (rs := [5]) (by kernel_rfl) (by simp) ?_
  refine AllReadyH.cons (o := { dst := some 23, op := Op.buildSlice 35 4 #[(0, Operand.const (Value.int IntKind.i64 0)), (1, Operand.const (Value.int IntKind.i64 0)), (2, Operand.const (Value.int IntKind.i64 0)), (3, Operand.const (Value.int IntKind.i64 1))], type := 35, pos := "l04_vector.go:104", after := #[], guard := none }) (rs := []) rfl (fun K hK => ?_) AllReadyH.nil
  go_simp
  skip
  refine hK.out _ _ ?_ (fun hHeld => ?_)
  · exact ⟨HK6.out.four.1, HK6.out.four.2.1⟩
  clear hK K
  try simp only [Act.put, List.setIfInBounds_toArray, List.set_cons_zero, List.set_cons_succ]
  refine wpAnyH_ready (rs := [6]) (by kernel_rfl) (by simp) ?_
  refine AllReadyH.cons (o := { dst := some 24, op := Op.call { callee := Callee.value (Operand.func 28), args := #[Operand.tmp 22, Operand.tmp 23], argTypes := #[44, 35] }, type := 3, pos := "l04_vector.go:104", after := #[{ on := 4, ground := Ground.data }, { on := 5, ground := Ground.data }], guard := none }) (rs := []) rfl (fun K hK => ?_) AllReadyH.nil
  go_simp
  (go_at_call 28; refine (pick_in w.heap.size (w.heap.size + 1) a len cap 4 lenL _ lenL_cells 4 rfl (by decide) (by decide) wD (by omega) HU5.out (Hc.out.below HB5.out) _ (by simp)).mono ?_; rintro e w7 ⟨x, rfl, hxm, hc7, ho7⟩; obtain ⟨m, rfl, hm1⟩ := lenL_nat hxm; have HU7 := Lib.hid hc7; have HB7 := Lib.hid (HB5.out.trans (ho7.below (by omega))); have HR7 := Lib.hid (HR5.out.only ho7 (by omega)); have HA7 := Lib.hid (HA5.out.only ho7 (by omega)); have HK7 := Lib.hid (HK5.out.only ho7 (by omega)); have hz7 : w4.heap.size + 1 ≤ w7.heap.size := Nat.le_trans hz5 ho7.low.size; clear hc7 ho7 hxm HU5 HB5 HR5 HA5 HK5 HK6)
  refine hK.out _ _ ?_ (fun hHeld => ?_)
  · exact ⟨HK7.out.four.1, HK7.out.four.2.1⟩
  clear hK K
  try simp only [Act.put, List.setIfInBounds_toArray, List.set_cons_zero, List.set_cons_succ]
  have hsum : IntKind.i64.wrap ((n : Int) + (m : Int)) = (n : Int) + (m : Int) := IntWalk.i64_in _ (by omega)
  refine wpAnyH_take (i := 7) (oi := { dst := some 25, op := Op.binOp BinOp.add 3 (Operand.tmp 21) (Operand.tmp 24) 3, type := 3, pos := "l04_vector.go:104", after := #[{ on := 3, ground := Ground.data }, { on := 6, ground := Ground.data }], guard := none }) (v := ?_) rfl (by kernel_rfl) (by kernel_rfl) (by kernel_rfl) (fun _ _ _ h => h) (Or.inl ⟨by rfl, ?_⟩) (by assumption) ?_
  rotate_left 1
  · intro w hSw; (try dsimp only at hSw); go_simp; try (with_reducible rfl)
  try simp only [Act.put, List.setIfInBounds_toArray, List.set_cons_zero, List.set_cons_succ]
  clear hsum
  refine wpAnyH_ready (rs := [8]) (by kernel_rfl) (by simp) ?_
  refine AllReadyH.cons (o := { dst := some 26, op := Op.call { callee := Callee.value (Operand.func 26), args := #[Operand.tmp 20, Operand.tmp 25], argTypes := #[44, 3] }, type := 24, pos := "l04_vector.go:104", after := #[{ on := 2, ground := Ground.data }, { on := 7, ground := Ground.data }, { on := 6, ground := Ground.chain }], guard := none }) (rs := []) rfl (fun K hK => ?_) AllReadyH.nil
  go_simp
  (go_at_call 26; refine (spec_l4DrawI w.heap.size (w.heap.size + 1) (n + m) _ (by simp) (by omega) a len cap w7 (by omega) HU7.out (Hc.out.below HB7.out)).mono ?_; rintro e w8 ⟨vb, ys, rfl, hyl, hob, hc8, ho8⟩; have HYL := Lib.hid hyl; have HB8 := Lib.hid (HB7.out.trans (ho8.below (by omega))); have HR8 := Lib.hid (HR7.out.only ho8 (by omega)); have HA8 := Lib.hid (HA7.out.only ho8 (by omega)); have HK8 := Lib.hid (HK7.out.only ho8 (by omega)); have HY8 := Lib.hid (hob.lower (show w.heap.size + 2 ≤ w7.heap.size by omega)); clear hc8 ho8 hob hyl HU7 HB7 HR7 HA7 HK7)
  refine hK.out _ _ ?_ (fun hHeld => ?_)
  · exact ⟨HK8.out.four.1, HK8.out.four.2.1⟩
  clear hK K
  try simp only [Act.put, List.setIfInBounds_toArray, List.set_cons_zero, List.set_cons_succ]
  refine wpAnyH_take (i := 9) (oi := { dst := some 2, op := Op.assign (Operand.tmp 18), type := 24, pos := "l04_vector.go:104", after := #[{ on := 0, ground := Ground.data }, { on := 8, ground := Ground.chain }, { on := 0, ground := Ground.phase }, { on := 1, ground := Ground.textOnly Departure.lateStores }, { on := 2, ground := Ground.textOnly Departure.lateStores }, { on := 3, ground := Ground.textOnly Departure.lateStores }, { on := 4, ground := Ground.textOnly Departure.lateStores }, { on := 5, ground := Ground.textOnly Departure.lateStores }, { on := 6, ground := Ground.textOnly Departure.lateStoresUnsure }, { on := 7, ground := Ground.textOnly Departure.lateStores }, { on := 8, ground := Ground.textOnly Departure.lateStoresUnsure }], guard := none }) (v := ?_) rfl (by kernel_rfl) (by kernel_rfl) (by kernel_rfl) (fun _ _ _ h => h) (Or.inl ⟨by rfl, ?_⟩) (by assumption) ?_
  rotate_left 1
  · intro w hSw; (try dsimp only at hSw); go_simp; try (with_reducible rfl)
  try simp only [Act.put, List.setIfInBounds_toArray, List.set_cons_zero, List.set_cons_succ]
  obtain ⟨r0, r1, f0, f1⟩ := HR8.out.four
  have HK9 := Lib.hid (HK8.out.other (q := w.heap.size) (by omega) 0 1 (.int .i64 un) (.int .i64 ud))
  refine wpAnyH_ready (rs := [10]) (by kernel_rfl) (by simp) ?_
  refine AllReadyH.cons (o := { dst := none, op := Op.store 26 (Operand.tmp 3) (Operand.tmp 19), type := 0, pos := "l04_vector.go:104", after := #[{ on := 1, ground := Ground.data }, { on := 9, ground := Ground.chain }, { on := 0, ground := Ground.phase }, { on := 1, ground := Ground.phase }, { on := 2, ground := Ground.textOnly Departure.lateStores }, { on := 3, ground := Ground.textOnly Departure.lateStores }, { on := 4, ground := Ground.textOnly Departure.lateStores }, { on := 5, ground := Ground.textOnly Departure.lateStores }, { on := 6, ground := Ground.textOnly Departure.lateStoresUnsure }, { on := 7, ground := Ground.textOnly Departure.lateStores }, { on := 8, ground := Ground.textOnly Departure.lateStoresUnsure }, { on := 9, ground := Ground.phase }], guard := none }) (rs := []) rfl (fun K hK => ?_) AllReadyH.nil
  go_simp
  skip
  refine hK.out _ _ ?_ (fun hHeld => ?_)
  · exact ⟨HK9.out.four.1, HK9.out.four.2.1⟩
  clear hK K
  try simp only [Act.put, List.setIfInBounds_toArray, List.set_cons_zero, List.set_cons_succ]
  refine wpAnyH_take (i := 11) (oi := { dst := some 4, op := Op.assign (Operand.tmp 26), type := 24, pos := "l04_vector.go:104", after := #[{ on := 8, ground := Ground.data }, { on := 10, ground := Ground.chain }, { on := 0, ground := Ground.phase }, { on := 1, ground := Ground.phase }, { on := 2, ground := Ground.phase }, { on := 3, ground := Ground.phase }, { on := 4, ground := Ground.phase }, { on := 5, ground := Ground.phase }, { on := 6, ground := Ground.phase }, { on := 7, ground := Ground.phase }, { on := 8, ground := Ground.phase }, { on := 9, ground := Ground.phase }, { on := 10, ground := Ground.phase }], guard := none }) (v := ?_) rfl (by kernel_rfl) (by kernel_rfl) (by kernel_rfl) (fun _ _ _ h => h) (Or.inl ⟨by rfl, ?_⟩) (by assumption) ?_
  rotate_left 1
  · intro w hSw; (try dsimp only at hSw); go_simp; try (with_reducible rfl)
  try simp only [Act.put, List.setIfInBounds_toArray, List.set_cons_zero, List.set_cons_succ]
  refine wpAnyH_done (by kernel_rfl) ?_ _
  have z := pair_set (x := .int .i64 un) (y := .int .i64 ud) r0 r1
  have HA9 := Lib.hid ((HA8.out.grown (grownR_set (grownR_set (World.grownBy.refl w8 (some w.heap.size)) 0 (.int .i64 un)) 1 (.int .i64 ud)) (fun g hg e => by have := (own_block HA8.out g hg).1; injection e; omega)).lower (Nat.le_add_right _ 2))
  have HY9 := Lib.hid ((HY8.out.grown (grownR_set (grownR_set (World.grownBy.refl w8 (some w.heap.size)) 0 (.int .i64 un)) 1 (.int .i64 ud)) (fun g hg e => by have := (own_block HY8.out g hg).1; injection e; omega)).lower (Nat.le_add_right _ 2))
  have HB9 := Lib.hid ((HB8.out.setCell (p := ⟨w.heap.size, 0, none⟩) (Nat.le_refl _) (.int .i64 un)).setCell (p := ⟨w.heap.size, 1, none⟩) (Nat.le_refl _) (.int .i64 ud))
  have hl1 : xs.length ≤ 3 := by have := HXL.out; omega
  have hl2 : ys.length ≤ 4 := by have := HYL.out; omega
  clear r0 r1 f0 f1
  go_wp2_with fail
  exact bodyPost_ret (v := .tuple #[va, .agg #[.int .i64 un, .int .i64 ud], vb]) (by simp [results, Tryd.results6, go_sem, z.1, z.2]) rfl ⟨va, vb, xs, ys, (un, ud), rfl, hl1, hl2, HA9.out, HY9.out, HB9.out⟩
end Go.Proofs.YtlaohlcghdbjhaaDoor
