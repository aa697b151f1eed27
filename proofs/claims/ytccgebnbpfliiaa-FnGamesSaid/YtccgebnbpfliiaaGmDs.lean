/- The specification's l8Mate; the draws of AddGames' arguments. -/
import Derived.Test.YtccgebnbpfliiaaGmBe
import Derived.Test.YtccgebnbpfliiaaGmF
namespace Go.Proofs.Ytccgebnbpfliiaa
open Go.RowKit
open Gm (G)
theorem Cur.up {w w' : World} {p : Nat} {a : Option Addr} {len cap : Nat} (h : Cur w p a len cap) (hb : Below w.heap.size w w') : Cur w' p a len cap := by
  obtain ⟨i, x, h1, h2, hk⟩ := h
  exact ⟨i, x, h1, h2, (hb.block p (lt_of_block hk)).trans hk⟩
theorem Only.of_below {p : Nat} {w w' : World} (hb : Below w.heap.size w w') (hp : p ≤ w.heap.size) : Only p w w' := ⟨hb.mono hp, fun k _ h2 => hb.block k h2⟩
/-- A game of as many values has been drawn. -/
def DrewMate (g : G) (p : Nat) (a : Option Addr) (len cap : Nat) (w : World) (e : Ending) (w' : World) : Prop :=
  ∃ (xs : List Int) (v : Value), e = .returned (.agg #[.int .i64 g.n, v]) ∧ OwnInts w.heap.size w' v xs ∧ xs.length = g.v.length ∧ Cur w' p a len cap ∧ Only p w w'
set_option maxRecDepth 100000 in
set_option maxHeartbeats 4000000 in
theorem spec_l8Mate (B p : Nat) (a : Option Addr) (len cap : Nat) {x y : Value} {g : G} (w : World) (hB : B ≤ p) (hcur : Cur w p a len cap) (hcode : CodeAt B w a len) (h : GmC w x y g) (hf : GmOk g) (hl2 : 2 ≤ g.v.length) :
    Calls Try.prog 41 #[.pointer (some ⟨p, 0, none⟩), .agg #[x, y]] w (DrewMate g p a len cap w) := by
  have hp := hcur.lt
  obtain ⟨W, hW⟩ : ∃ W, W = (w.alloc (.cells #[x, y] 26)).alloc (.cells #[.int .i64 0, .slice none 0 0] 26) := ⟨_, rfl⟩
  obtain ⟨q1, q3, q4, q5⟩ := two_boxes w x y 26 W hW
  have HA := Lib.hid (h.up q4)
  have HC1 := Lib.hid q1
  have HC3 := Lib.hid q3
  have HW := Lib.hid hW
  have HU0 := Lib.hid (hcur.up q4)
  have HO0 := Lib.hid (Only.of_below q4 (by omega) (p := p))
  have Hc := Lib.hid hcode
  obtain ⟨gn, gv⟩ := g
  simp only at hl2
  clear q1 q3 q4 h hW hcur hcode
  go_enter Try.func41, Try.ntmps41
  go_wp2_with fail
  rw [← HW.out]
  refine (spec_l8Copy HA.out hf).mono ?_
  rintro e w1 ⟨⟨v, rfl, hx1⟩, kb⟩
  simp only at hx1 ⊢
  have hs1 := kb.size
  have HU1 := Lib.hid (HU0.out.up kb)
  have HO1 := Lib.hid (HO0.out.trans (Only.of_below kb (by omega)))
  have HZ1 := Lib.hid (HC3.out.below kb)
  have HX1 := Lib.hid (hx1.raise2 (show w.heap.size ≤ W.heap.size by omega))
  obtain ⟨av, cv, rfl, _, hab, hag⟩ := own_reads hx1
  obtain ⟨b, rfl⟩ := hag (by intro e; rw [e] at hl2; simp at hl2)
  have hbl := hab _ rfl
  simp only at hbl
  have hl3 : gv.length ≤ 1048576 := hf.1
  obtain ⟨N, hN⟩ : ∃ N, gv.length = N := ⟨_, rfl⟩
  have HL := Lib.hid hN
  rw [hN] at hl2 hl3 ⊢
  have HR1 : Hid (RowI w.heap.size w1 (.slice (some ⟨b, 0, none⟩) N cv) N) := ⟨gv, HL.out, by have := HX1.out; rw [hN] at this; rw [← hN]; rw [hN]; exact this⟩
  have HQ2 := Lib.hid (CellsAt.new w1 #[.int .i64 gn, .slice (some ⟨b, 0, none⟩) N cv] 26)
  have HU2 := Lib.hid (HU1.out.alloc (.cells #[.int .i64 gn, .slice (some ⟨b, 0, none⟩) N cv] 26))
  have HO2 := Lib.hid (HO1.out.alloc (by omega) (.cells #[.int .i64 gn, .slice (some ⟨b, 0, none⟩) N cv] 26))
  have HZ2 := Lib.hid (HZ1.out.more (.cells #[.int .i64 gn, .slice (some ⟨b, 0, none⟩) N cv] 26))
  have HR2 : Hid (RowI w.heap.size (w1.alloc (.cells #[.int .i64 gn, .slice (some ⟨b, 0, none⟩) N cv] 26)) (.slice (some ⟨b, 0, none⟩) N cv) N) := by
    obtain ⟨ys, h1, h2⟩ := HR1.out
    exact ⟨ys, h1, h2.alloc _⟩
  have hbq : b ≠ w1.heap.size := by omega
  have hqp : w1.heap.size ≠ p := by omega
  clear hx1 kb hab hag HX1 HU1 HO1 HZ1 HR1 HU0 HO0 HW HA HC1 hN
  go_wp2_with fail
  go_loopw [6] (fun i wr => ∃ k : Nat, 1 ≤ k ∧ k ≤ N ∧ i = .int .i64 k ∧ Hid (CellsAt wr w1.heap.size #[.int .i64 gn, .slice (some ⟨b, 0, none⟩) N cv] 26) ∧ Hid (CellsAt wr (w.heap.size + 1) #[.int .i64 0, .slice none 0 0] 26) ∧ Hid (RowI w.heap.size wr (.slice (some ⟨b, 0, none⟩) N cv) N) ∧ Hid (Cur wr p a len cap) ∧ Hid (Only p w wr)) (fun i _ => N - (intOf i).toNat)
  case atStart => exact ⟨1, by omega, by omega, rfl, HQ2, HZ2, HR2, HU2, HO2⟩
  case round =>
    obtain ⟨k, hk1, hk, rfl, hQ, hZ, hR, hC, hOn⟩ := hrel
    obtain ⟨y0, y1⟩ := two hQ.out
    by_cases hlt : k < N
    · have Cell := Lib.hid (fun w' (h : Only p wr w') => (show w'.cell? ⟨w1.heap.size, 1, none⟩ = some (.slice (some ⟨b, 0, none⟩) N cv) ∧ Only p wr w' from ⟨h.cell (a := ⟨w1.heap.size, 1, none⟩) hqp y1, h⟩))
      have ho0 : Only p wr wr.drew := (Only.refl p wr).drew
      have hwz := hOn.out.low.size
      have hwl := lt_of_at hQ.out
      go_upto_region 5 with fail
      refine wp_region_T_drew (S := (fun w' => w'.cell? ⟨w1.heap.size, 1, none⟩ = some (.slice (some ⟨b, 0, none⟩) N cv) ∧ Only p wr w')) 7 (by kernel_rfl) ?_ (fun hHeld => ?_)
      · exact Cell.out _ ho0
      refine wpAnyT_take (i := 0) (oi := { dst := some 16, op := Op.fieldAddr 26 (Operand.tmp 5) 1, type := 0, pos := "l08_game.go:167", after := #[], guard := none }) (v := ?_) rfl (by kernel_rfl) (fun _ _ _ h => h) (Or.inl ⟨by rfl, ?_⟩) (by assumption) ?_
      rotate_left 1
      · intro w hSw; (try dsimp only at hSw); go_simp; try (with_reducible rfl)
      try simp only [Act.put, List.setIfInBounds_toArray, List.set_cons_zero, List.set_cons_succ]
      refine wpAnyT_take (i := 1) (oi := { dst := some 17, op := Op.load 24 (Operand.tmp 16), type := 24, pos := "l08_game.go:167", after := #[{ on := 0, ground := Ground.data }], guard := none }) (v := ?_) rfl (by kernel_rfl) (fun _ _ _ h => h) (Or.inl ⟨by rfl, ?_⟩) (by assumption) ?_
      rotate_left 1
      · intro w hSw; (try dsimp only at hSw); go_simp; try (with_reducible rfl)
      try simp only [Act.put, List.setIfInBounds_toArray, List.set_cons_zero, List.set_cons_succ]
      refine wpAnyT_take (i := 2) (oi := { dst := some 18, op := Op.move (Operand.tmp 6), type := 3, pos := "l08_game.go:167", after := #[], guard := none }) (v := ?_) rfl (by kernel_rfl) (fun _ _ _ h => h) (Or.inl ⟨by rfl, ?_⟩) (by assumption) ?_
      rotate_left 1
      · intro w hSw; (try dsimp only at hSw); go_simp; try (with_reducible rfl)
      try simp only [Act.put, List.setIfInBounds_toArray, List.set_cons_zero, List.set_cons_succ]
      refine wpAnyT_take (i := 3) (oi := { dst := some 19, op := Op.move (Operand.tmp 0), type := 52, pos := "l08_game.go:167", after := #[], guard := none }) (v := ?_) rfl (by kernel_rfl) (fun _ _ _ h => h) (Or.inl ⟨by rfl, ?_⟩) (by assumption) ?_
      rotate_left 1
      · intro w hSw; (try dsimp only at hSw); go_simp; try (with_reducible rfl)
      try simp only [Act.put, List.setIfInBounds_toArray, List.set_cons_zero, List.set_cons_succ]
      refine wpAnyT_ready (rs := [4]) (by kernel_rfl) (by simp) ?_
      refine (AllReadyT.cons (o := { dst := some 20, op := Op.buildSlice 24 5 #[(0, Operand.const (Value.int IntKind.i64 0)), (1, Operand.const (Value.int IntKind.i64 1)), (2, Operand.const (Value.int IntKind.i64 4)), (3, Operand.const (Value.int IntKind.i64 (-3))), (4, Operand.const (Value.int IntKind.i64 7))], type := 24, pos := "l08_game.go:167", after := #[], guard := none }) (rs := []) rfl (fun K hK => ?_) AllReadyT.nil)
      go_simp
      refine hK.out _ _ ?_ (fun hHeld => ?_)
      · exact Cell.out _ (ho0.alloc (by omega) _)
      clear hK K
      try simp only [Act.put, List.setIfInBounds_toArray, List.set_cons_zero, List.set_cons_succ]
      refine wpAnyT_ready (rs := [5]) (by kernel_rfl) (by simp) ?_
      refine (AllReadyT.cons (o := { dst := some 21, op := Op.call { callee := Callee.value (Operand.func 47), args := #[Operand.tmp 19, Operand.tmp 20], argTypes := #[52, 24] }, type := 3, pos := "l08_game.go:167", after := #[{ on := 3, ground := Ground.data }, { on := 4, ground := Ground.data }], guard := none }) (rs := []) rfl (fun K hK => ?_) AllReadyT.nil)
      go_simp
      (go_at_call 47; refine (pick_in B p a len cap 5 [0, 1, 4, (-3), 7] #[.int .i64 0, .int .i64 1, .int .i64 4, .int .i64 (-3), .int .i64 7] rfl 5 rfl (by decide) (by decide) wr.drew hB hC.out.drew0 (Hc.out.below (hOn.out.drew.below hB)) _ rfl).mono ?_; rintro e w2 ⟨xb, rfl, _, hc2, ho2⟩; have ho3 := ho0.trans ho2)
      refine hK.out _ _ ?_ (fun hHeld => ?_)
      · exact Cell.out _ ho3
      clear hK K
      try simp only [Act.put, List.setIfInBounds_toArray, List.set_cons_zero, List.set_cons_succ]
      refine wpAnyT_take (i := 6) (oi := { dst := some 22, op := Op.indexAddr 24 (Operand.tmp 17) (Operand.tmp 18), type := 0, pos := "l08_game.go:167", after := #[{ on := 1, ground := Ground.data }, { on := 2, ground := Ground.data }, { on := 0, ground := Ground.phase }, { on := 1, ground := Ground.phase }, { on := 2, ground := Ground.phase }, { on := 3, ground := Ground.phase }, { on := 4, ground := Ground.phase }, { on := 5, ground := Ground.phase }], guard := none }) (v := ?_) rfl (by kernel_rfl) (fun _ _ _ h => h) (Or.inl ⟨by rfl, ?_⟩) (by assumption) ?_
      rotate_left 1
      · intro w hSw; (try dsimp only at hSw); go_simp; try (with_reducible rfl)
      try simp only [Act.put, List.setIfInBounds_toArray, List.set_cons_zero, List.set_cons_succ]
      have hR2 := hR.out.only ho3 hp
      obtain ⟨⟨xc, c3⟩, f3, hbB, hbl3⟩ := hR2.spot hlt
      refine wpAnyT_ready (rs := [7]) (by kernel_rfl) (by simp) ?_
      refine (AllReadyT.last (o := { dst := none, op := Op.store 3 (Operand.tmp 22) (Operand.tmp 21), type := 0, pos := "l08_game.go:167", after := #[{ on := 6, ground := Ground.data }, { on := 5, ground := Ground.data }, { on := 5, ground := Ground.chain }, { on := 0, ground := Ground.phase }, { on := 1, ground := Ground.phase }, { on := 2, ground := Ground.phase }, { on := 3, ground := Ground.phase }, { on := 4, ground := Ground.phase }, { on := 5, ground := Ground.phase }], guard := none }) (rs := []) rfl (by rfl) (fun K hK => ?_) AllReadyT.nil)
      go_simp
      refine hK.out _ _ ?_
      clear hK K
      refine wpAnyT_done (by kernel_rfl) ?_ _
      have HRn := Lib.hid (hR2.set (k := k) xb)
      have HQn := Lib.hid ((hQ.out.only ho3 hqp).other (p := ⟨b, k, none⟩) hbq (.int .i64 xb))
      have HZn := Lib.hid ((hZ.out.only ho3 (by omega)).other (p := ⟨b, k, none⟩) (show b ≠ w.heap.size + 1 by omega) (.int .i64 xb))
      have HCn := Lib.hid (hc2.other (q := b) (k := k) (by omega) (.int .i64 xb))
      have HOn := Lib.hid ((hOn.out.trans ho3).setOwn (by omega) (show w.heap.size ≤ b by omega) k (.int .i64 xb))
      clear c3 f3 hR2 ho3 ho0 Cell hc2 ho2
      go_wp2_with fail
      go_roundw
      case rel => exact ⟨k + 1, by omega, by omega, by go_num, HQn, HZn, HRn, HCn, HOn⟩
      case measure => simp [intOf]; omega
    · obtain ⟨d0, d1, e0, e1⟩ := two' hZ.out
      have HR := Lib.hid ((hZ.out.s0 (.int .i64 gn)).s1 (.slice (some ⟨b, 0, none⟩) N cv))
      obtain ⟨xs, hxl, hxr⟩ := hR.out
      have hne2 : (Value.slice (some ⟨b, 0, none⟩) N cv).ownBlock ≠ some (w.heap.size + 1) := own_apart hxr hZ.out.ty (by decide)
      have HY := Lib.hid (owns_set (i := 1) (u := .slice (some ⟨b, 0, none⟩) N cv) (owns_set (i := 0) (u := .int .i64 gn) hxr hne2) hne2)
      have HCe := Lib.hid ((hC.out.other (q := w.heap.size + 1) (k := 0) (by omega) (.int .i64 gn)).other (q := w.heap.size + 1) (k := 1) (by omega) (.slice (some ⟨b, 0, none⟩) N cv))
      have HOe := Lib.hid ((hOn.out.setOwn (by omega) (Nat.le_succ _) 0 (.int .i64 gn)).setOwn (by omega) (Nat.le_succ _) 1 (.slice (some ⟨b, 0, none⟩) N cv))
      have HXL := Lib.hid hxl
      clear hxl hxr hne2
      go_wp2_with fail
      refine bodyPost_ret (v := .agg #[.int .i64 gn, .slice (some ⟨b, 0, none⟩) N cv]) (by
        obtain ⟨z0, z1⟩ := two HR.out
        revert z0 z1
        generalize ((wr.setCell ⟨w.heap.size + 1, 0, none⟩ (.int .i64 gn)).setCell ⟨w.heap.size + 1, 1, none⟩ (.slice (some ⟨b, 0, none⟩) N cv)) = W4
        intro z0 z1
        simp [results, Try.results41, go_sem, z0, z1]) rfl ⟨xs, _, rfl, HY.out, by rw [HXL.out]; exact HL.out.symm, HCe.out, HOe.out⟩
/-- Two games have been drawn. -/
def DrewTwo (w : World) (e : Ending) (w' : World) : Prop :=
  ∃ (g g' : G) (v v' : Value), e = .returned (.tuple #[.agg #[.int .i64 g.n, v], .agg #[.int .i64 g'.n, v']]) ∧ GmC w' (.int .i64 g.n) v g ∧ GmC w' (.int .i64 g'.n) v' g' ∧ GmOk g ∧ GmOk g' ∧ Below w.heap.size w w'
theorem bent_ok {g : G} (h1 : -1 ≤ g.n) (h2 : g.n ≤ 6) (h3 : g.v.length ≤ 33) : GmOk g := ⟨by omega, by
  have e1 : IntKind.i64.min = -9223372036854775808 := rfl
  have e2 : IntKind.i64.max = 9223372036854775807 := rfl
  simp [Lit.wf, e1, e2]
  omega⟩
theorem GmC.of_owns {B : Nat} {w : World} {v : Value} {g : G} (h : OwnInts B w v g.v) : GmC w (.int .i64 g.n) v g := by
  obtain ⟨a, c, rfl⟩ := ints_shape h
  exact GmC.of_own h
set_option maxRecDepth 100000 in
set_option maxHeartbeats 4000000 in
theorem spec_DrawAddGames (a : Option Addr) (len cap : Nat) (w : World) (hcode : CodeAt w.heap.size w a len) :
    Calls Try.prog 12 #[.slice a len cap] w (DrewTwo w) := by
  have Hc := Lib.hid hcode
  have hz1 := (CellsAt.new w #[.int .i64 0, .slice none 0 0] 26).more (.cells #[.int .i64 0, .slice none 0 0] 26)
  have hz2 := CellsAt.new (w.alloc (.cells #[.int .i64 0, .slice none 0 0] 26)) #[.int .i64 0, .slice none 0 0] 26
  rw [size1] at hz2
  have hb0 := ((Below.refl w.heap.size w).alloc (Nat.le_refl _) (.cells #[.int .i64 0, .slice none 0 0] 26)).alloc (by rw [size1]; omega) (.cells #[.int .i64 0, .slice none 0 0] 26)
  have hs0 := size2 w (.cells #[.int .i64 0, .slice none 0 0] 26) (.cells #[.int .i64 0, .slice none 0 0] 26)
  have HZ1 := Lib.hid hz1
  have HZ2 := Lib.hid hz2
  have HB0 := Lib.hid hb0
  have Hs0 := Lib.hid hs0
  clear hz1 hz2 hb0 hs0 hcode
  go_enter Try.func12, Try.ntmps12
  go_wp2_with fail
  refine (spec_l1New w.heap.size a len cap _ (Hc.out.below HB0.out)).mono ?_
  rintro e w1 ⟨rfl, hc1, hb1, hsz1⟩
  rw [Hs0.out] at hc1 hb1 hsz1 ⊢
  obtain ⟨p, hp⟩ : ∃ p, w.heap.size + 2 = p := ⟨_, rfl⟩
  have HY1 := Lib.hid (show CellsAt w1 w.heap.size #[.int .i64 0, .slice none 0 0] 26 from (hb1.block _ (by omega)).trans HZ1.out)
  have HY2 := Lib.hid (show CellsAt w1 (w.heap.size + 1) #[.int .i64 0, .slice none 0 0] 26 from (hb1.block _ (by omega)).trans HZ2.out)
  have HB1 := Lib.hid (HB0.out.trans (hb1.mono (by omega)))
  rw [hp] at hc1 hsz1 ⊢
  have HU1 := Lib.hid hc1
  have hBp : w.heap.size ≤ p := by omega
  have hp2 : w.heap.size + 2 ≤ p := by omega
  clear hc1 hb1 HZ1 HZ2 HB0 Hs0 hp
  go_wp2_with fail
  refine (spec_l8Bent w.heap.size p a len cap w1 hBp HU1.out (Hc.out.below HB1.out)).mono ?_
  rintro e w2 ⟨g, v, rfl, hx2, hn1, hn2, hl2, hc2, ho2⟩
  have hs2 := ho2.low.size
  obtain ⟨gn, gv⟩ := g
  simp only at hx2 hn1 hn2 hl2 ⊢
  obtain ⟨av, cv, rfl⟩ := ints_shape hx2
  have HQ3 := Lib.hid (CellsAt.new w2 #[.int .i64 gn, .slice av gv.length cv] 26)
  have HU3 := Lib.hid (hc2.alloc (.cells #[.int .i64 gn, .slice av gv.length cv] 26))
  have HY13 := Lib.hid ((HY1.out.only ho2 (by omega)).more (.cells #[.int .i64 gn, .slice av gv.length cv] 26))
  have HY23 := Lib.hid ((HY2.out.only ho2 (by omega)).more (.cells #[.int .i64 gn, .slice av gv.length cv] 26))
  have HX3 := Lib.hid (hx2.alloc (.cells #[.int .i64 gn, .slice av gv.length cv] 26))
  have hb3 := HB1.out.trans (ho2.below hBp)
  have HB3 := Lib.hid (hb3.alloc hb3.size (.cells #[.int .i64 gn, .slice av gv.length cv] 26))
  have hqp : w2.heap.size ≠ p := by omega
  clear hx2 hc2 ho2 hb3 HY1 HY2 HU1 HB1
  go_wp2_with fail
  refine (spec_l1Once w.heap.size p a len cap 10 (by decide) (by decide) _ hBp HU3.out (Hc.out.below HB3.out)).mono ?_
  rintro e w4 ⟨bo, rfl, hc4, ho4⟩
  have hs4 := ho4.low.size
  rw [size1] at hs4
  have HU4 := Lib.hid hc4
  have HB4 := Lib.hid (HB3.out.trans (ho4.below hBp))
  have HQ4 := Lib.hid (HQ3.out.only ho4 hqp)
  have HY14 := Lib.hid (HY13.out.only ho4 (by omega))
  have HY24 := Lib.hid (HY23.out.only ho4 (by omega))
  have HX4 := Lib.hid (HX3.out.only ho4 (by omega))
  obtain ⟨y0, y1⟩ := two HQ4.out
  clear hc4 ho4 HU3 HB3 HQ3 HY13 HY23 HX3
  have Cell := Lib.hid (fun w' (h : Only p w4 w') => (show w'.cell? ⟨w2.heap.size, 0, none⟩ = some (.int .i64 gn) ∧ w'.cell? ⟨w2.heap.size, 1, none⟩ = some (.slice av gv.length cv) ∧ Only p w4 w' from ⟨h.cell (a := ⟨w2.heap.size, 0, none⟩) hqp y0, h.cell (a := ⟨w2.heap.size, 1, none⟩) hqp y1, h⟩))
  have ho0 : Only p w4 w4.drew := (Only.refl p w4).drew
  cases bo
  · go_upto_region 5 with fail
    refine wp_region_T_drew (S := (fun w' => w'.cell? ⟨w2.heap.size, 0, none⟩ = some (.int .i64 gn) ∧ w'.cell? ⟨w2.heap.size, 1, none⟩ = some (.slice av gv.length cv) ∧ Only p w4 w')) 4 (by kernel_rfl) ?_ (fun hHeld => ?_)
    · exact Cell.out _ ho0
    refine wpAnyT_take (i := 0) (oi := { dst := some 15, op := Op.load 26 (Operand.tmp 5), type := 26, pos := "l08_game.go:178", after := #[], guard := none }) (v := ?_) rfl (by kernel_rfl) (fun _ _ _ h => h) (Or.inl ⟨by rfl, ?_⟩) (by assumption) ?_
    rotate_left 1
    · intro w hSw; (try dsimp only at hSw); go_simp; try (with_reducible rfl)
    try simp only [Act.put, List.setIfInBounds_toArray, List.set_cons_zero, List.set_cons_succ]
    refine wpAnyT_take (i := 1) (oi := { dst := some 16, op := Op.move (Operand.tmp 4), type := 52, pos := "l08_game.go:178", after := #[], guard := none }) (v := ?_) rfl (by kernel_rfl) (fun _ _ _ h => h) (Or.inl ⟨by rfl, ?_⟩) (by assumption) ?_
    rotate_left 1
    · intro w hSw; (try dsimp only at hSw); go_simp; try (with_reducible rfl)
    try simp only [Act.put, List.setIfInBounds_toArray, List.set_cons_zero, List.set_cons_succ]
    refine wpAnyT_take (i := 2) (oi := { dst := some 17, op := Op.load 26 (Operand.tmp 5), type := 26, pos := "l08_game.go:178", after := #[], guard := none }) (v := ?_) rfl (by kernel_rfl) (fun _ _ _ h => h) (Or.inl ⟨by rfl, ?_⟩) (by assumption) ?_
    rotate_left 1
    · intro w hSw; (try dsimp only at hSw); go_simp; try (with_reducible rfl)
    try simp only [Act.put, List.setIfInBounds_toArray, List.set_cons_zero, List.set_cons_succ]
    refine wpAnyT_ready (rs := [3]) (by kernel_rfl) (by simp) ?_
    refine (AllReadyT.cons (o := { dst := some 18, op := Op.call { callee := Callee.value (Operand.func 41), args := #[Operand.tmp 16, Operand.tmp 17], argTypes := #[52, 26] }, type := 26, pos := "l08_game.go:178", after := #[{ on := 1, ground := Ground.data }, { on := 2, ground := Ground.data }], guard := none }) (rs := []) rfl (fun K hK => ?_) AllReadyT.nil)
    go_simp
    (go_at_call 41; refine (spec_l8Mate w.heap.size p a len cap w4.drew hBp HU4.out.drew0 (Hc.out.below HB4.out.drew) (g := ⟨gn, gv⟩) (GmC.up (GmC.of_own (g := ⟨gn, gv⟩) HX4.out) (Below.refl _ _).drew) (bent_ok hn1 hn2 hl2.2) hl2.1).mono ?_; rintro e w5 ⟨ys, v5, rfl, hx5, hl5, hc5, ho5⟩; have HL5 := Lib.hid hl5; clear hl5; obtain ⟨av5, cv5, rfl⟩ := ints_shape hx5; have ho6 := ho0.trans ho5; obtain ⟨d0, d1, f0, f1⟩ := two' (HY14.out.only ho6 (by omega)); obtain ⟨d2, d3, f2, f3⟩ := two' (HY24.out.only ho6 (by omega)))
    refine hK.out _ _ ?_ (fun hHeld => ?_)
    · exact Cell.out _ ho6
    clear hK K
    have hd2 : w.heap.size ≠ w.heap.size + 1 := by omega
    have hd3 : w.heap.size + 1 ≠ w.heap.size := by omega
    refine wpAnyT_ready (rs := [4]) (by kernel_rfl) (by simp) ?_
    refine (AllReadyT.last (o := { dst := none, op := Op.store 26 (Operand.tmp 2) (Operand.tmp 15), type := 0, pos := "l08_game.go:178", after := #[{ on := 0, ground := Ground.data }, { on := 3, ground := Ground.chain }, { on := 0, ground := Ground.phase }, { on := 1, ground := Ground.textOnly Departure.lateStores }, { on := 2, ground := Ground.textOnly Departure.lateStores }, { on := 3, ground := Ground.textOnly Departure.lateStoresUnsure }], guard := none }) (rs := []) rfl (by rfl) (fun K hK => ?_) AllReadyT.nil)
    go_simp
    refine hK.out _ _ ?_
    clear hK K
    refine wpAnyT_ready (rs := [5]) (by kernel_rfl) (by simp) ?_
    refine (AllReadyT.last (o := { dst := none, op := Op.store 26 (Operand.tmp 3) (Operand.tmp 18), type := 0, pos := "l08_game.go:178", after := #[{ on := 3, ground := Ground.data }, { on := 4, ground := Ground.chain }, { on := 0, ground := Ground.phase }, { on := 1, ground := Ground.phase }, { on := 2, ground := Ground.phase }, { on := 3, ground := Ground.phase }, { on := 4, ground := Ground.phase }], guard := none }) (rs := []) rfl (by rfl) (fun K hK => ?_) AllReadyT.nil)
    go_simp
    refine hK.out _ _ ?_
    clear hK K
    refine wpAnyT_done (by kernel_rfl) ?_ _
    have hA := HX4.out.only ho6 (by omega)
    have n1 := own_apart hA (HY14.out.only ho6 (by omega)).ty (by decide)
    have n2 := own_apart hA (HY24.out.only ho6 (by omega)).ty (by decide)
    have n3 := own_apart hx5 (HY14.out.only ho6 (by omega)).ty (by decide)
    have n4 := own_apart hx5 (HY24.out.only ho6 (by omega)).ty (by decide)
    have HA5 := Lib.hid (owns_set (i := 1) (u := .slice av5 ys.length cv5) (owns_set (i := 0) (u := .int .i64 gn) (owns_set (i := 1) (u := .slice av gv.length cv) (owns_set (i := 0) (u := .int .i64 gn) hA n1) n1) n2) n2)
    have HA6 := Lib.hid (owns_set (i := 1) (u := .slice av5 ys.length cv5) (owns_set (i := 0) (u := .int .i64 gn) (owns_set (i := 1) (u := .slice av gv.length cv) (owns_set (i := 0) (u := .int .i64 gn) hx5 n3) n3) n4) n4)
    have HE1 := Lib.hid (((((HY14.out.only ho6 (by omega)).s0 (.int .i64 gn)).s1 (.slice av gv.length cv)).other (p := ⟨w.heap.size + 1, 0, none⟩) hd3 (.int .i64 gn)).other (p := ⟨w.heap.size + 1, 1, none⟩) hd3 (.slice av5 ys.length cv5))
    have HE2 := Lib.hid (((((HY24.out.only ho6 (by omega)).other (p := ⟨w.heap.size, 0, none⟩) hd2 (.int .i64 gn)).other (p := ⟨w.heap.size, 1, none⟩) hd2 (.slice av gv.length cv)).s0 (.int .i64 gn)).s1 (.slice av5 ys.length cv5))
    have HBe := Lib.hid ((((((HB4.out.trans (ho6.below hBp)).setCell (p := ⟨w.heap.size, 0, none⟩) (Nat.le_refl _) (.int .i64 gn)).setCell (p := ⟨w.heap.size, 1, none⟩) (Nat.le_refl _) (.slice av gv.length cv)).setCell (p := ⟨w.heap.size + 1, 0, none⟩) (Nat.le_succ _) (.int .i64 gn)).setCell (p := ⟨w.heap.size + 1, 1, none⟩) (Nat.le_succ _) (.slice av5 ys.length cv5)))
    have hok5 : GmOk ⟨gn, ys⟩ := bent_ok hn1 hn2 (by simp only; rw [HL5.out]; exact hl2.2)
    clear hA n1 n2 n3 n4 ho6 ho0 Cell d0 d1 f0 f1 d2 d3 f2 f3 hx5 hd2 hd3 hc5 ho5
    go_wp2_with fail
    refine bodyPost_ret (v := .tuple #[.agg #[.int .i64 gn, .slice av gv.length cv], .agg #[.int .i64 gn, .slice av5 ys.length cv5]]) (by
      obtain ⟨z0, z1⟩ := two HE1.out
      obtain ⟨z2, z3⟩ := two HE2.out
      revert z0 z1 z2 z3
      generalize ((((w5.setCell ⟨w.heap.size, 0, none⟩ (.int .i64 gn)).setCell ⟨w.heap.size, 1, none⟩ (.slice av gv.length cv)).setCell ⟨w.heap.size + 1, 0, none⟩ (.int .i64 gn)).setCell ⟨w.heap.size + 1, 1, none⟩ (.slice av5 ys.length cv5)) = W4
      intro z0 z1 z2 z3
      simp [results, Try.results12, go_sem, z0, z1, z2, z3]) rfl ⟨⟨gn, gv⟩, ⟨gn, ys⟩, _, _, rfl, GmC.of_owns (g := ⟨gn, gv⟩) HA5.out, GmC.of_owns (g := ⟨gn, ys⟩) HA6.out, bent_ok hn1 hn2 hl2.2, hok5, HBe.out⟩
  · go_upto_region 4 with fail
    refine wp_region_T_drew (S := (fun w' => w'.cell? ⟨w2.heap.size, 0, none⟩ = some (.int .i64 gn) ∧ w'.cell? ⟨w2.heap.size, 1, none⟩ = some (.slice av gv.length cv) ∧ Only p w4 w')) 3 (by kernel_rfl) ?_ (fun hHeld => ?_)
    · exact Cell.out _ ho0
    refine wpAnyT_take (i := 0) (oi := { dst := some 12, op := Op.load 26 (Operand.tmp 5), type := 26, pos := "l08_game.go:176", after := #[], guard := none }) (v := ?_) rfl (by kernel_rfl) (fun _ _ _ h => h) (Or.inl ⟨by rfl, ?_⟩) (by assumption) ?_
    rotate_left 1
    · intro w hSw; (try dsimp only at hSw); go_simp; try (with_reducible rfl)
    try simp only [Act.put, List.setIfInBounds_toArray, List.set_cons_zero, List.set_cons_succ]
    refine wpAnyT_take (i := 1) (oi := { dst := some 13, op := Op.move (Operand.tmp 4), type := 52, pos := "l08_game.go:176", after := #[], guard := none }) (v := ?_) rfl (by kernel_rfl) (fun _ _ _ h => h) (Or.inl ⟨by rfl, ?_⟩) (by assumption) ?_
    rotate_left 1
    · intro w hSw; (try dsimp only at hSw); go_simp; try (with_reducible rfl)
    try simp only [Act.put, List.setIfInBounds_toArray, List.set_cons_zero, List.set_cons_succ]
    refine wpAnyT_ready (rs := [2]) (by kernel_rfl) (by simp) ?_
    refine (AllReadyT.cons (o := { dst := some 14, op := Op.call { callee := Callee.value (Operand.func 39), args := #[Operand.tmp 13], argTypes := #[52] }, type := 26, pos := "l08_game.go:176", after := #[{ on := 1, ground := Ground.data }], guard := none }) (rs := []) rfl (fun K hK => ?_) AllReadyT.nil)
    go_simp
    (go_at_call 39; refine (spec_l8Bent w.heap.size p a len cap w4.drew hBp HU4.out.drew0 (Hc.out.below HB4.out.drew)).mono ?_; rintro e w5 ⟨g5, v5, rfl, hx5, hm1, hm2, hl5, hc5, ho5⟩; obtain ⟨g5n, ys⟩ := g5; simp only at hx5 hm1 hm2 hl5; obtain ⟨av5, cv5, rfl⟩ := ints_shape hx5; have ho6 := ho0.trans ho5; obtain ⟨d0, d1, f0, f1⟩ := two' (HY14.out.only ho6 (by omega)); obtain ⟨d2, d3, f2, f3⟩ := two' (HY24.out.only ho6 (by omega)))
    refine hK.out _ _ ?_ (fun hHeld => ?_)
    · exact Cell.out _ ho6
    clear hK K
    have hd2 : w.heap.size ≠ w.heap.size + 1 := by omega
    have hd3 : w.heap.size + 1 ≠ w.heap.size := by omega
    refine wpAnyT_ready (rs := [3]) (by kernel_rfl) (by simp) ?_
    refine (AllReadyT.last (o := { dst := none, op := Op.store 26 (Operand.tmp 2) (Operand.tmp 12), type := 0, pos := "l08_game.go:176", after := #[{ on := 0, ground := Ground.data }, { on := 2, ground := Ground.chain }, { on := 0, ground := Ground.phase }, { on := 1, ground := Ground.textOnly Departure.lateStores }, { on := 2, ground := Ground.textOnly Departure.lateStoresUnsure }], guard := none }) (rs := []) rfl (by rfl) (fun K hK => ?_) AllReadyT.nil)
    go_simp
    refine hK.out _ _ ?_
    clear hK K
    refine wpAnyT_ready (rs := [4]) (by kernel_rfl) (by simp) ?_
    refine (AllReadyT.last (o := { dst := none, op := Op.store 26 (Operand.tmp 3) (Operand.tmp 14), type := 0, pos := "l08_game.go:176", after := #[{ on := 2, ground := Ground.data }, { on := 3, ground := Ground.chain }, { on := 0, ground := Ground.phase }, { on := 1, ground := Ground.phase }, { on := 2, ground := Ground.phase }, { on := 3, ground := Ground.phase }], guard := none }) (rs := []) rfl (by rfl) (fun K hK => ?_) AllReadyT.nil)
    go_simp
    refine hK.out _ _ ?_
    clear hK K
    refine wpAnyT_done (by kernel_rfl) ?_ _
    have hA := HX4.out.only ho6 (by omega)
    have n1 := own_apart hA (HY14.out.only ho6 (by omega)).ty (by decide)
    have n2 := own_apart hA (HY24.out.only ho6 (by omega)).ty (by decide)
    have n3 := own_apart hx5 (HY14.out.only ho6 (by omega)).ty (by decide)
    have n4 := own_apart hx5 (HY24.out.only ho6 (by omega)).ty (by decide)
    have HA5 := Lib.hid (owns_set (i := 1) (u := .slice av5 ys.length cv5) (owns_set (i := 0) (u := .int .i64 g5n) (owns_set (i := 1) (u := .slice av gv.length cv) (owns_set (i := 0) (u := .int .i64 gn) hA n1) n1) n2) n2)
    have HA6 := Lib.hid (owns_set (i := 1) (u := .slice av5 ys.length cv5) (owns_set (i := 0) (u := .int .i64 g5n) (owns_set (i := 1) (u := .slice av gv.length cv) (owns_set (i := 0) (u := .int .i64 gn) hx5 n3) n3) n4) n4)
    have HE1 := Lib.hid (((((HY14.out.only ho6 (by omega)).s0 (.int .i64 gn)).s1 (.slice av gv.length cv)).other (p := ⟨w.heap.size + 1, 0, none⟩) hd3 (.int .i64 g5n)).other (p := ⟨w.heap.size + 1, 1, none⟩) hd3 (.slice av5 ys.length cv5))
    have HE2 := Lib.hid (((((HY24.out.only ho6 (by omega)).other (p := ⟨w.heap.size, 0, none⟩) hd2 (.int .i64 gn)).other (p := ⟨w.heap.size, 1, none⟩) hd2 (.slice av gv.length cv)).s0 (.int .i64 g5n)).s1 (.slice av5 ys.length cv5))
    have HBe := Lib.hid ((((((HB4.out.trans (ho6.below hBp)).setCell (p := ⟨w.heap.size, 0, none⟩) (Nat.le_refl _) (.int .i64 gn)).setCell (p := ⟨w.heap.size, 1, none⟩) (Nat.le_refl _) (.slice av gv.length cv)).setCell (p := ⟨w.heap.size + 1, 0, none⟩) (Nat.le_succ _) (.int .i64 g5n)).setCell (p := ⟨w.heap.size + 1, 1, none⟩) (Nat.le_succ _) (.slice av5 ys.length cv5)))
    have hok5 : GmOk ⟨g5n, ys⟩ := bent_ok hm1 hm2 hl5.2
    clear hA n1 n2 n3 n4 ho6 ho0 Cell d0 d1 f0 f1 d2 d3 f2 f3 hx5 hd2 hd3 hc5 ho5
    go_wp2_with fail
    refine bodyPost_ret (v := .tuple #[.agg #[.int .i64 gn, .slice av gv.length cv], .agg #[.int .i64 g5n, .slice av5 ys.length cv5]]) (by
      obtain ⟨z0, z1⟩ := two HE1.out
      obtain ⟨z2, z3⟩ := two HE2.out
      revert z0 z1 z2 z3
      generalize ((((w5.setCell ⟨w.heap.size, 0, none⟩ (.int .i64 gn)).setCell ⟨w.heap.size, 1, none⟩ (.slice av gv.length cv)).setCell ⟨w.heap.size + 1, 0, none⟩ (.int .i64 g5n)).setCell ⟨w.heap.size + 1, 1, none⟩ (.slice av5 ys.length cv5)) = W4
      intro z0 z1 z2 z3
      simp [results, Try.results12, go_sem, z0, z1, z2, z3]) rfl ⟨⟨gn, gv⟩, ⟨g5n, ys⟩, _, _, rfl, GmC.of_owns (g := ⟨gn, gv⟩) HA5.out, GmC.of_owns (g := ⟨g5n, ys⟩) HA6.out, bent_ok hn1 hn2 hl2.2, hok5, HBe.out⟩
end Go.Proofs.Ytccgebnbpfliiaa
