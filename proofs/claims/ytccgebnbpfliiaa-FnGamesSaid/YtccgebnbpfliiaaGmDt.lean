/- The draws of the arguments of ScaleGame, ValueOf, Restrict. -/
import Derived.Test.YtccgebnbpfliiaaGmDs
import Derived.Test.YtccgebnbpfliiaaLkInts
namespace Go.Proofs.Ytccgebnbpfliiaa
open Go.RowKit
open Gm (G)
/-- A game and a number have been drawn. -/
def DrewGmInt (w : World) (e : Ending) (w' : World) : Prop :=
  ∃ (g : G) (v : Value) (s : Int), e = .returned (.tuple #[.agg #[.int .i64 g.n, v], .int .i64 s]) ∧ OwnInts w.heap.size w' v g.v ∧ GmOk g ∧ -1 ≤ s ∧ s ≤ 33 ∧ Below w.heap.size w w'
set_option maxRecDepth 100000 in
set_option maxHeartbeats 4000000 in
theorem spec_DrawValueOf (a : Option Addr) (len cap : Nat) (w : World) (hcode : CodeAt w.heap.size w a len) :
    Calls Try.prog 54 #[.slice a len cap] w (DrewGmInt w) := by
  have Hc := Lib.hid hcode
  have hz1 := CellsAt.new w #[.int .i64 0, .slice none 0 0] 26
  have hb0 := (Below.refl w.heap.size w).alloc (Nat.le_refl _) (.cells #[.int .i64 0, .slice none 0 0] 26)
  have hs0 := size1 w (.cells #[.int .i64 0, .slice none 0 0] 26)
  have HZ1 := Lib.hid hz1
  have HB0 := Lib.hid hb0
  have Hs0 := Lib.hid hs0
  clear hz1 hb0 hs0 hcode
  go_enter Try.func54, Try.ntmps54
  go_wp2_with fail
  refine (spec_l1New w.heap.size a len cap _ (Hc.out.below HB0.out)).mono ?_
  rintro e w1 ⟨rfl, hc1, hb1, hsz1⟩
  rw [Hs0.out] at hc1 hb1 hsz1 ⊢
  obtain ⟨p, hp⟩ : ∃ p, w.heap.size + 1 = p := ⟨_, rfl⟩
  have HY1 := Lib.hid (show CellsAt w1 w.heap.size #[.int .i64 0, .slice none 0 0] 26 from (hb1.block _ (by omega)).trans HZ1.out)
  have HB1 := Lib.hid (HB0.out.trans (hb1.mono (by omega)))
  rw [hp] at hc1 hsz1 ⊢
  have HU1 := Lib.hid hc1
  have hBp : w.heap.size ≤ p := by omega
  have hp2 : w.heap.size + 1 ≤ p := by omega
  clear hc1 hb1 HZ1 HB0 Hs0 hp
  go_wp2_with fail
  refine (spec_l8Bent w.heap.size p a len cap w1 hBp HU1.out (Hc.out.below HB1.out)).mono ?_
  rintro e w2 ⟨g, v, rfl, hx2, hn1, hn2, hl2, hc2, ho2⟩
  have hs2 := ho2.low.size
  obtain ⟨gn, gv⟩ := g
  simp only at hx2 hn1 hn2 hl2 ⊢
  obtain ⟨av, cv, rfl⟩ := ints_shape hx2
  obtain ⟨N, hN⟩ : ∃ N, gv.length = N := ⟨_, rfl⟩
  rw [hN] at hx2 hl2 ⊢
  have HL := Lib.hid hN
  have HQ3 := Lib.hid (CellsAt.new w2 #[.int .i64 gn, .slice av N cv] 26)
  have HU3 := Lib.hid (hc2.alloc (.cells #[.int .i64 gn, .slice av N cv] 26))
  have HY3 := Lib.hid ((HY1.out.only ho2 (by omega)).more (.cells #[.int .i64 gn, .slice av N cv] 26))
  have HX3 := Lib.hid (hx2.alloc (.cells #[.int .i64 gn, .slice av N cv] 26))
  have hb3 := HB1.out.trans (ho2.below hBp)
  have HB3 := Lib.hid (hb3.alloc hb3.size (.cells #[.int .i64 gn, .slice av N cv] 26))
  have hs3 := size1 w2 (.cells #[.int .i64 gn, .slice av N cv] 26)
  have hqp : w2.heap.size ≠ p := by omega
  clear hx2 hc2 ho2 hb3 HY1 HU1 HB1 hN
  obtain ⟨y0, y1⟩ := two HQ3.out
  generalize hW3 : w2.alloc (.cells #[.int .i64 gn, .slice av N cv] 26) = w3 at *
  have Cell := Lib.hid (fun w' (h : Only p w3 w') => (show w'.cell? ⟨w2.heap.size, 0, none⟩ = some (.int .i64 gn) ∧ w'.cell? ⟨w2.heap.size, 1, none⟩ = some (.slice av N cv) ∧ Only p w3 w' from ⟨h.cell (a := ⟨w2.heap.size, 0, none⟩) hqp y0, h.cell (a := ⟨w2.heap.size, 1, none⟩) hqp y1, h⟩))
  have ho0 : Only p w3 w3.drew := (Only.refl p w3).drew
  have hN0 : (1 : Int) ≤ (N : Int) + 2 := by omega
  have hN1 : (N : Int) + 2 ≤ 1099511627776 := by omega
  have hs1 : IntKind.i64.wrap ((N : Int) + 2) = (N : Int) + 2 := IntWalk.i64_in _ (by omega)
  go_upto_region 3 with fail
  refine wp_region_held_drew (S := fun w' => w'.cell? ⟨w2.heap.size, 0, none⟩ = some (.int .i64 gn) ∧ w'.cell? ⟨w2.heap.size, 1, none⟩ = some (.slice av N cv)) (by kernel_rfl) ?_ (fun hHeld => ?_)
  · exact ⟨y0, y1⟩
  refine wpAnyH_take (i := 0) (oi := { dst := some 10, op := Op.load 26 (Operand.tmp 5), type := 26, pos := "l08_game.go:149", after := #[], guard := none }) (v := ?_) rfl (by kernel_rfl) (by kernel_rfl) (by kernel_rfl) (fun _ _ _ h => h) (Or.inl ⟨by rfl, ?_⟩) (by assumption) ?_
  rotate_left 1
  · intro w hSw; (try dsimp only at hSw); go_simp; try (with_reducible rfl)
  try simp only [Act.put, List.setIfInBounds_toArray, List.set_cons_zero, List.set_cons_succ]
  refine wpAnyH_take (i := 1) (oi := { dst := some 11, op := Op.move (Operand.tmp 4), type := 52, pos := "l08_game.go:149", after := #[], guard := none }) (v := ?_) rfl (by kernel_rfl) (by kernel_rfl) (by kernel_rfl) (fun _ _ _ h => h) (Or.inl ⟨by rfl, ?_⟩) (by assumption) ?_
  rotate_left 1
  · intro w hSw; (try dsimp only at hSw); go_simp; try (with_reducible rfl)
  try simp only [Act.put, List.setIfInBounds_toArray, List.set_cons_zero, List.set_cons_succ]
  refine wpAnyH_take (i := 2) (oi := { dst := some 12, op := Op.fieldAddr 26 (Operand.tmp 5) 1, type := 0, pos := "l08_game.go:149", after := #[], guard := none }) (v := ?_) rfl (by kernel_rfl) (by kernel_rfl) (by kernel_rfl) (fun _ _ _ h => h) (Or.inl ⟨by rfl, ?_⟩) (by assumption) ?_
  rotate_left 1
  · intro w hSw; (try dsimp only at hSw); go_simp; try (with_reducible rfl)
  try simp only [Act.put, List.setIfInBounds_toArray, List.set_cons_zero, List.set_cons_succ]
  refine wpAnyH_take (i := 3) (oi := { dst := some 13, op := Op.load 24 (Operand.tmp 12), type := 24, pos := "l08_game.go:149", after := #[{ on := 2, ground := Ground.data }], guard := none }) (v := ?_) rfl (by kernel_rfl) (by kernel_rfl) (by kernel_rfl) (fun _ _ _ h => h) (Or.inl ⟨by rfl, ?_⟩) (by assumption) ?_
  rotate_left 1
  · intro w hSw; (try dsimp only at hSw); go_simp; try (with_reducible rfl)
  try simp only [Act.put, List.setIfInBounds_toArray, List.set_cons_zero, List.set_cons_succ]
  refine wpAnyH_take (i := 4) (oi := { dst := some 14, op := Op.call { callee := Callee.builtin Builtin.len, args := #[Operand.tmp 13], argTypes := #[24] }, type := 3, pos := "l08_game.go:149", after := #[{ on := 3, ground := Ground.data }], guard := none }) (v := ?_) rfl (by kernel_rfl) (by kernel_rfl) (by kernel_rfl) (fun _ _ _ h => h) (Or.inl ⟨by rfl, ?_⟩) (by assumption) ?_
  rotate_left 1
  · intro w hSw; (try dsimp only at hSw); go_simp; try (with_reducible rfl)
  try simp only [Act.put, List.setIfInBounds_toArray, List.set_cons_zero, List.set_cons_succ]
  refine wpAnyH_take (i := 5) (oi := { dst := some 15, op := Op.binOp BinOp.add 3 (Operand.tmp 14) (Operand.const (Value.int IntKind.i64 2)) 3, type := 3, pos := "l08_game.go:149", after := #[{ on := 4, ground := Ground.data }], guard := none }) (v := ?_) rfl (by kernel_rfl) (by kernel_rfl) (by kernel_rfl) (fun _ _ _ h => h) (Or.inl ⟨by rfl, ?_⟩) (by assumption) ?_
  rotate_left 1
  · intro w hSw; (try dsimp only at hSw); go_simp; try (with_reducible rfl)
  try simp only [Act.put, List.setIfInBounds_toArray, List.set_cons_zero, List.set_cons_succ]
  refine wpAnyH_ready (rs := [6]) (by kernel_rfl) (by simp) ?_
  refine AllReadyH.cons (o := { dst := some 16, op := Op.call { callee := Callee.value (Operand.func 66), args := #[Operand.tmp 11, Operand.tmp 15], argTypes := #[52, 3] }, type := 3, pos := "l08_game.go:149", after := #[{ on := 1, ground := Ground.data }, { on := 5, ground := Ground.data }], guard := none }) (rs := []) rfl (fun K hK => ?_) AllReadyH.nil
  go_simp
  (go_at_call 66; refine (spec_l1Below w.heap.size p a len cap ((N : Int) + 2) hN0 hN1 w3.drew hBp HU3.out.drew0 (Hc.out.below HB3.out.drew)).mono ?_; rintro e w5 ⟨x, rfl, hx0, hx1, hc5, ho5⟩; have hs2' : IntKind.i64.wrap (x - 1) = x - 1 := IntWalk.i64_in _ (by omega); have ho6 := ho0.trans ho5; obtain ⟨d0, d1, f0, f1⟩ := two' (HY3.out.only ho6 (by omega)))
  refine hK.out _ _ ?_ (fun hHeld => ?_)
  · exact ⟨(Cell.out _ ho6).1, (Cell.out _ ho6).2.1⟩
  clear hK K
  try simp only [Act.put, List.setIfInBounds_toArray, List.set_cons_zero, List.set_cons_succ]
  have hQs := ((HQ3.out.only ho6 hqp).other (p := ⟨w.heap.size, 0, none⟩) (show w.heap.size ≠ w2.heap.size by omega) (.int .i64 gn)).other (p := ⟨w.heap.size, 1, none⟩) (show w.heap.size ≠ w2.heap.size by omega) (.slice av N cv)
  refine wpAnyH_take (i := 7) (oi := { dst := some 17, op := Op.binOp BinOp.sub 3 (Operand.tmp 16) (Operand.const (Value.int IntKind.i64 1)) 3, type := 3, pos := "l08_game.go:149", after := #[{ on := 6, ground := Ground.data }, { on := 8, ground := Ground.gcOnly Departure.lateStores }], guard := none }) (v := ?_) rfl (by kernel_rfl) (by kernel_rfl) (by kernel_rfl) (fun _ _ _ h => h) (Or.inl ⟨by rfl, ?_⟩) (by assumption) ?_
  rotate_left 1
  · intro w hSw; (try dsimp only at hSw); go_simp; try (with_reducible rfl)
  try simp only [Act.put, List.setIfInBounds_toArray, List.set_cons_zero, List.set_cons_succ]
  refine wpAnyH_ready (rs := [8]) (by kernel_rfl) (by simp) ?_
  refine AllReadyH.cons (o := { dst := none, op := Op.store 26 (Operand.tmp 2) (Operand.tmp 10), type := 0, pos := "l08_game.go:149", after := #[{ on := 0, ground := Ground.data }, { on := 6, ground := Ground.chain }, { on := 0, ground := Ground.phase }, { on := 1, ground := Ground.textOnly Departure.lateStores }, { on := 2, ground := Ground.textOnly Departure.lateStores }, { on := 3, ground := Ground.textOnly Departure.lateStores }, { on := 4, ground := Ground.textOnly Departure.lateStoresUnsure }, { on := 5, ground := Ground.textOnly Departure.lateStores }, { on := 6, ground := Ground.textOnly Departure.lateStoresUnsure }, { on := 7, ground := Ground.textOnly Departure.lateStores }], guard := none }) (rs := []) rfl (fun K hK => ?_) AllReadyH.nil
  go_simp
  skip
  refine hK.out _ _ ?_ (fun hHeld => ?_)
  · exact two hQs
  clear hK K
  try simp only [Act.put, List.setIfInBounds_toArray, List.set_cons_zero, List.set_cons_succ]
  refine wpAnyH_take (i := 9) (oi := { dst := some 3, op := Op.assign (Operand.tmp 17), type := 3, pos := "l08_game.go:149", after := #[{ on := 7, ground := Ground.data }, { on := 8, ground := Ground.chain }, { on := 0, ground := Ground.phase }, { on := 1, ground := Ground.phase }, { on := 2, ground := Ground.phase }, { on := 3, ground := Ground.phase }, { on := 4, ground := Ground.phase }, { on := 5, ground := Ground.phase }, { on := 6, ground := Ground.phase }, { on := 7, ground := Ground.phase }, { on := 8, ground := Ground.phase }], guard := none }) (v := ?_) rfl (by kernel_rfl) (by kernel_rfl) (by kernel_rfl) (fun _ _ _ h => h) (Or.inl ⟨by rfl, ?_⟩) (by assumption) ?_
  rotate_left 1
  · intro w hSw; (try dsimp only at hSw); go_simp; try (with_reducible rfl)
  try simp only [Act.put, List.setIfInBounds_toArray, List.set_cons_zero, List.set_cons_succ]
  refine wpAnyH_done (by kernel_rfl) ?_ _
  have hA := HX3.out.only ho6 (by omega)
  have n1 := own_apart hA (HY3.out.only ho6 (by omega)).ty (by decide)
  have HA5 := Lib.hid (owns_set (i := 1) (u := .slice av N cv) (owns_set (i := 0) (u := .int .i64 gn) hA n1) n1)
  have HE1 := Lib.hid (((HY3.out.only ho6 (by omega)).s0 (.int .i64 gn)).s1 (.slice av N cv))
  have HBe := Lib.hid (((HB3.out.trans (ho6.below hBp)).setCell (p := ⟨w.heap.size, 0, none⟩) (Nat.le_refl _) (.int .i64 gn)).setCell (p := ⟨w.heap.size, 1, none⟩) (Nat.le_refl _) (.slice av N cv))
  have hx3 : -1 ≤ x - 1 ∧ x - 1 ≤ 33 := by omega
  clear hA n1 ho6 ho0 Cell d0 d1 f0 f1 hs1
  go_wp2_with fail
  refine bodyPost_ret (v := .tuple #[.agg #[.int .i64 gn, .slice av N cv], .int .i64 (x - 1)]) (by
    obtain ⟨z0, z1⟩ := two HE1.out
    revert z0 z1
    generalize ((w5.setCell ⟨w.heap.size, 0, none⟩ (.int .i64 gn)).setCell ⟨w.heap.size, 1, none⟩ (.slice av N cv)) = W4
    intro z0 z1
    simp [results, Try.results54, go_sem, z0, z1]) rfl ⟨⟨gn, gv⟩, _, _, rfl, OwnInts.raise2 (by rw [← HL.out] at HA5 ⊢; exact HA5.out) (by omega), bent_ok hn1 hn2 (by simp only; rw [HL.out]; omega), hx3.1, hx3.2, HBe.out⟩
set_option maxRecDepth 100000 in
set_option maxHeartbeats 4000000 in
theorem spec_DrawRestrict (a : Option Addr) (len cap : Nat) (w : World) (hcode : CodeAt w.heap.size w a len) :
    Calls Try.prog 20 #[.slice a len cap] w (DrewGmInt w) := by
  have hz1 := CellsAt.new w #[.int .i64 0, .slice none 0 0] 26
  have hb0 := (Below.refl w.heap.size w).alloc (Nat.le_refl _) (.cells #[.int .i64 0, .slice none 0 0] 26)
  have hs0 := size1 w (.cells #[.int .i64 0, .slice none 0 0] 26)
  have HZ1 := Lib.hid hz1
  have HB0 := Lib.hid hb0
  have Hs0 := Lib.hid hs0
  have Hc := Lib.hid ((hcode.below hb0).mono (show w.heap.size ≤ (w.alloc (.cells #[.int .i64 0, .slice none 0 0] 26)).heap.size by omega))
  clear hz1 hb0 hs0 hcode
  go_enter Try.func20, Try.ntmps20
  go_wp2_with fail
  refine (spec_DrawValueOf a len cap _ Hc.out).mono ?_
  rintro e w1 ⟨g, v, s, rfl, hg, hok, hs1, hs2, hb⟩
  obtain ⟨gn, gv⟩ := g
  simp only at hg ⊢
  obtain ⟨av, cv, rfl⟩ := ints_shape hg
  have hb1 := HB0.out.trans (hb.mono (by rw [Hs0.out]; omega))
  have hz := HZ1.out.below hb
  obtain ⟨d0, d1, f0, f1⟩ := two' hz
  have HE1 := Lib.hid ((hz.s0 (.int .i64 gn)).s1 (.slice av gv.length cv))
  have HBe := Lib.hid ((hb1.setCell (p := ⟨w.heap.size, 0, none⟩) (Nat.le_refl _) (.int .i64 gn)).setCell (p := ⟨w.heap.size, 1, none⟩) (Nat.le_refl _) (.slice av gv.length cv))
  have n1 := own_apart hg hz.ty (by decide)
  have HG := Lib.hid (owns_set (i := 1) (u := .slice av gv.length cv) (owns_set (i := 0) (u := .int .i64 gn) hg n1) n1)
  have hsz0 : w.heap.size ≤ (w.alloc (.cells #[.int .i64 0, .slice none 0 0] 26)).heap.size := by rw [size1]; omega
  clear hg hz hb hb1 n1
  go_wp2_with fail
  refine bodyPost_ret (v := .tuple #[.agg #[.int .i64 gn, .slice av gv.length cv], .int .i64 s]) (by
    obtain ⟨z0, z1⟩ := two HE1.out
    revert z0 z1
    generalize ((w1.setCell ⟨w.heap.size, 0, none⟩ (.int .i64 gn)).setCell ⟨w.heap.size, 1, none⟩ (.slice av gv.length cv)) = W4
    intro z0 z1
    simp [results, Try.results20, go_sem, z0, z1]) rfl ⟨⟨gn, gv⟩, _, _, rfl, OwnInts.raise2 HG.out hsz0, hok, hs1, hs2, HBe.out⟩
/-- A game, a number and a list have been drawn. -/
def DrewScl (w : World) (e : Ending) (w' : World) : Prop :=
  ∃ (g : G) (v : Value) (k : Int) (u : Value) (zs : List Int), e = .returned (.tuple #[.agg #[.int .i64 g.n, v], .int .i64 k, u]) ∧ OwnInts w.heap.size w' v g.v ∧ GmOk g ∧ OwnInts w.heap.size w' u zs ∧ zs.length ≤ 8 ∧ Below w.heap.size w w'
def SomeL (p : Nat) (a : Option Addr) (len cap : Nat) (w3 wr : World) (k : Nat) (v : Value) : Prop :=
  ∃ zs : List Int, zs.length = k ∧ OwnInts w3.heap.size wr v zs ∧ Cur wr p a len cap ∧ Only p w3 wr
set_option maxRecDepth 100000 in
set_option maxHeartbeats 8000000 in
theorem spec_DrawScaleGame (a : Option Addr) (len cap : Nat) (w : World) (hcode : CodeAt w.heap.size w a len) :
    Calls Try.prog 15 #[.slice a len cap] w (DrewScl w) := by

  have Hc := Lib.hid hcode
  have hz1 := CellsAt.new w #[.int .i64 0, .slice none 0 0] 26
  have hb0 := (Below.refl w.heap.size w).alloc (Nat.le_refl _) (.cells #[.int .i64 0, .slice none 0 0] 26)
  have hs0 := size1 w (.cells #[.int .i64 0, .slice none 0 0] 26)
  have HZ1 := Lib.hid hz1
  have HB0 := Lib.hid hb0
  have Hs0 := Lib.hid hs0
  clear hz1 hb0 hs0 hcode
  go_enter Try.func15, Try.ntmps15
  go_wp2_with fail
  refine (spec_l1New w.heap.size a len cap _ (Hc.out.below HB0.out)).mono ?_
  rintro e w1 ⟨rfl, hc1, hb1, hsz1⟩
  rw [Hs0.out] at hc1 hb1 hsz1 ⊢
  obtain ⟨p, hp⟩ : ∃ p, w.heap.size + 1 = p := ⟨_, rfl⟩
  have HY1 := Lib.hid (show CellsAt w1 w.heap.size #[.int .i64 0, .slice none 0 0] 26 from (hb1.block _ (by omega)).trans HZ1.out)
  have HB1 := Lib.hid (HB0.out.trans (hb1.mono (by omega)))
  rw [hp] at hc1 hsz1 ⊢
  have HU1 := Lib.hid hc1
  have hBp : w.heap.size ≤ p := by omega
  have hp2 : w.heap.size + 1 ≤ p := by omega
  clear hc1 hb1 HZ1 HB0 Hs0 hp
  go_wp2_with fail
  refine (spec_l8Bent w.heap.size p a len cap w1 hBp HU1.out (Hc.out.below HB1.out)).mono ?_
  rintro e w2 ⟨g, v, rfl, hx2, hn1, hn2, hl2, hc2, ho2⟩
  have hs2 := ho2.low.size
  obtain ⟨gn, gv⟩ := g
  simp only at hx2 hn1 hn2 hl2 ⊢
  obtain ⟨av, cv, rfl⟩ := ints_shape hx2
  obtain ⟨N, hN⟩ : ∃ N, gv.length = N := ⟨_, rfl⟩
  rw [hN] at hx2 hl2 ⊢
  have HL := Lib.hid hN
  have HQ3 := Lib.hid (CellsAt.new w2 #[.int .i64 gn, .slice av N cv] 26)
  have HU3 := Lib.hid (hc2.alloc (.cells #[.int .i64 gn, .slice av N cv] 26))
  have HY3 := Lib.hid ((HY1.out.only ho2 (by omega)).more (.cells #[.int .i64 gn, .slice av N cv] 26))
  have HX3 := Lib.hid (hx2.alloc (.cells #[.int .i64 gn, .slice av N cv] 26))
  have hb3 := HB1.out.trans (ho2.below hBp)
  have HB3 := Lib.hid (hb3.alloc hb3.size (.cells #[.int .i64 gn, .slice av N cv] 26))
  have hs3 := size1 w2 (.cells #[.int .i64 gn, .slice av N cv] 26)
  have hqp : w2.heap.size ≠ p := by omega
  clear hx2 hc2 ho2 hb3 HY1 HU1 HB1 hN
  obtain ⟨y0, y1⟩ := two HQ3.out
  obtain ⟨i0, hi, hz0, hz1, hz2⟩ := info_parts info_int
  have HI := Lib.hid hi
  have HI0 := Lib.hid hz0
  have HI1 := Lib.hid hz1
  have HI2 := Lib.hid hz2
  clear hi hz0 hz1 hz2
  generalize hW3 : w2.alloc (.cells #[.int .i64 gn, .slice av N cv] 26) = w3 at *
  have HO3 : Hid (OwnInts (w3.heap.size) (w3.alloc (.cells #[] 3)) (.slice (some ⟨w3.heap.size, 0, none⟩) 0 0) []) := own_new_ints w3
  have HU4 := Lib.hid (HU3.out.alloc (.cells #[] 3))
  have HB4 := Lib.hid (HB3.out.alloc HB3.out.size (.cells #[] 3))
  have HQ4 := Lib.hid (HQ3.out.more (.cells #[] 3))
  have HY4 := Lib.hid (HY3.out.more (.cells #[] 3))
  have HX4 := Lib.hid (HX3.out.alloc (.cells #[] 3))
  have hs4 := size1 w3 (.cells #[] 3)
  have hbn : gn ≤ 9223372036854775807 := by omega
  go_wp2_with fail
  refine (spec_l1Max gn 0 _).mono ?_
  rintro e w9 ⟨⟨z1, rfl, hz1a, hz1b, hz1c⟩, rfl⟩
  go_wp2_with fail
  refine (spec_l1Min z1 6 _).mono ?_
  rintro e w9 ⟨⟨z2, rfl, hz2a, hz2b, hz2c⟩, rfl⟩
  have hz20 : 0 ≤ z2 ∧ z2 ≤ 6 := by omega
  clear hz1a hz1b hz1c hz2a hz2b hz2c
  go_wp2_with fail
  refine (pick_in w.heap.size p a len cap 5 [0, 0, 0, 0, 1] #[.int .i64 0, .int .i64 0, .int .i64 0, .int .i64 0, .int .i64 1] rfl 5 rfl (by decide) (by decide) _ hBp HU4.out (Hc.out.below HB4.out) _ (by simp [hs4, hs3])).mono ?_
  rintro e w5 ⟨n1, rfl, hn, hc5, ho5⟩
  have hn01 : 0 ≤ n1 ∧ n1 ≤ 1 := by simp at hn; omega
  obtain ⟨n, hnn⟩ : ∃ n : Nat, z2 + n1 = n := ⟨(z2 + n1).toNat, by omega⟩
  have hn7 : n ≤ 7 := by omega
  obtain rfl : z2 = (n : Int) - n1 := by omega
  have Hsum : Hid ((n : Int) - n1 + n1 = n) := by show _ = _; omega
  have hp3 : p < w3.heap.size := by omega
  have HX : Hid (SomeL p a len cap w3 w5 0 (.slice (some ⟨w3.heap.size, 0, none⟩) 0 0)) := ⟨[], rfl, HO3.out.only ho5 hp3, hc5, ((Only.refl p w3).alloc (by omega) _).trans ho5⟩
  rw [hs3] at HX
  have hs3a : w3.heap.size ≤ w2.heap.size + 1 := by omega
  have hs3b : w2.heap.size + 1 ≤ w3.heap.size := by omega
  clear hn hc5 ho5 hnn HO3 HU4 HB4 HQ4 HY4 HX4 hs4 hs3
  go_wp2_with fail
  clear Hsum
  go_loopw [7, 9] (fun v i wr => ∃ k : Nat, k ≤ n ∧ i = .int .i64 k ∧ Hid (SomeL p a len cap w3 wr k v)) (fun _ i _ => n - (intOf i).toNat)
  case atStart => exact ⟨0, Nat.zero_le _, rfl, HX⟩
  case round =>
    obtain ⟨k, hk, rfl, hX⟩ := hrel
    by_cases hlt : k < n
    · obtain ⟨zs, hl, ho, hc, hO⟩ := hX.out
      have HO := Lib.hid ho
      have HC := Lib.hid hc
      have HOn := Lib.hid hO
      have hzl := Nat.le_of_eq hl
      have HLz := Lib.hid hl
      have hwz := hO.low.size
      clear hl ho hc hO
      go_wp2_with fail
      refine (pick_in w.heap.size p a len cap 4 [0, 2, (-5), 100] #[.int .i64 0, .int .i64 2, .int .i64 (-5), .int .i64 100] rfl 4 rfl (by decide) (by decide) _ hBp HC.out (Hc.out.below (HB3.out.trans (HOn.out.below hBp))) _ (by simp)).mono ?_
      rintro e w6 ⟨y, rfl, -, hc6, ho6⟩
      have HC6 := Lib.hid hc6
      have HOn6 := Lib.hid (HOn.out.trans ho6)
      have hw6 := HOn6.out.low.size
      have hw36 : w3.heap.size ≤ w6.heap.size := Nat.le_trans (by have := HOn.out.high; have := ho6.low.size; omega) (Nat.le_refl _)
      have Hown := Lib.hid (World.ownsRow.alloc (HO.out.only ho6 hp3) (.cells #[.int .i64 y] 3))
      clear hc6 ho6
      go_wp2_with (at_builtin; refine wpList_append_own _ rfl _ _ 24 rfl w3.heap.size 3 i0 (.int .i64 0) 1 8 Try.underlying24 HI.out HI0.out HI1.out HI2.out rfl (by decide) _ _ _ rfl Hown.out ⟨w6.heap.size, 0, none⟩ 1 1 [.int .i64 y] rfl rfl ?c1 ?c2 ?c3 ?c4 ?c5 ?_)
      case c1 =>
        intro j u hj
        match j, hj with
        | 0, hj => simp at hj; subst hj; simp [Addr.add]
      case c2 => intro u hu; simp at hu; subst hu; rfl
      case c3 => unfold maxLen; omega
      case c4 => omega
      case c5 => simp; omega
      intro v' w7 hown' hgrow _
      have hne := Hown.out.lt
      have HX2 : Hid (SomeL p a len cap w3 w7 (k + 1) v') :=
        ⟨zs ++ [y], by rw [List.length_append, HLz.out]; rfl, OwnInts.more hown', (HC6.out.alloc _).grown hgrow (fun e => by have := (hne p e).1; omega), (HOn6.out.alloc (by omega) _).grown (by omega) hgrow (fun g hg => (hne g hg).1)⟩
      clear hown' hgrow hne
      go_wp2_with fail
      go_roundw
      case rel => exact ⟨k + 1, by omega, by go_num, HX2⟩
      case measure => simp [intOf]; omega
    · have he : k = n := by omega
      subst he
      obtain ⟨zs, hl, ho, hc, hO⟩ := hX.out
      have HO := Lib.hid ho
      have HC := Lib.hid hc
      have HOn := Lib.hid hO
      have HLz := Lib.hid hl
      have hzl : zs.length ≤ 7 := by omega
      obtain ⟨az, cz, hve⟩ := ints_shape ho
      rw [hl] at hve
      subst hve
      have HQr := Lib.hid (HQ3.out.only hO hqp)
      have HYr := Lib.hid (HY3.out.only hO (by omega))
      have HXr := Lib.hid (HX3.out.only hO (by omega))
      have HBr := Lib.hid (HB3.out.trans (hO.below hBp))
      obtain ⟨y0', y1'⟩ := two HQr.out
      have hw3r : w3.heap.size ≤ wr.heap.size := by have := HOn.out.low.size; have h9 := lt_of_at HQr.out; omega
      have ho0 : Only p wr wr.drew := (Only.refl p wr).drew
      clear hl ho hc hO HX
      go_upto_region 9 with fail
      refine wp_region_held_drew (S := fun w' => w'.cell? ⟨w2.heap.size, 0, none⟩ = some (.int .i64 gn) ∧ w'.cell? ⟨w2.heap.size, 1, none⟩ = some (.slice av N cv)) (by kernel_rfl) ?_ (fun hHeld => ?_)
      · exact ⟨y0', y1'⟩
      refine wpAnyH_take (i := 0) (oi := { dst := some 34, op := Op.load 26 (Operand.tmp 6), type := 26, pos := "l08_game.go:189", after := #[], guard := none }) (v := ?_) rfl (by kernel_rfl) (by kernel_rfl) (by kernel_rfl) (fun _ _ _ h => h) (Or.inl ⟨by rfl, ?_⟩) (by assumption) ?_
      rotate_left 1
      · intro w hSw; (try dsimp only at hSw); go_simp; try (with_reducible rfl)
      try simp only [Act.put, List.setIfInBounds_toArray, List.set_cons_zero, List.set_cons_succ]
      refine wpAnyH_take (i := 1) (oi := { dst := some 35, op := Op.move (Operand.tmp 5), type := 52, pos := "l08_game.go:189", after := #[], guard := none }) (v := ?_) rfl (by kernel_rfl) (by kernel_rfl) (by kernel_rfl) (fun _ _ _ h => h) (Or.inl ⟨by rfl, ?_⟩) (by assumption) ?_
      rotate_left 1
      · intro w hSw; (try dsimp only at hSw); go_simp; try (with_reducible rfl)
      try simp only [Act.put, List.setIfInBounds_toArray, List.set_cons_zero, List.set_cons_succ]
      refine wpAnyH_take (i := 4) (oi := { dst := some 38, op := Op.move (Operand.tmp 7), type := 24, pos := "l08_game.go:189", after := #[{ on := 6, ground := Ground.gcOnly Departure.lateStores }], guard := none }) (v := ?_) rfl (by kernel_rfl) (by kernel_rfl) (by kernel_rfl) (fun _ _ _ h => h) (Or.inl ⟨by rfl, ?_⟩) (by assumption) ?_
      rotate_left 1
      · intro w hSw; (try dsimp only at hSw); go_simp; try (with_reducible rfl)
      try simp only [Act.put, List.setIfInBounds_toArray, List.set_cons_zero, List.set_cons_succ]
      refine wpAnyH_ready (rs := [2]) (by kernel_rfl) (by simp) ?_
      refine AllReadyH.cons (o := { dst := some 36, op := Op.buildSlice 24 6 #[(0, Operand.const (Value.int IntKind.i64 1)), (1, Operand.const (Value.int IntKind.i64 2)), (2, Operand.const (Value.int IntKind.i64 0)), (3, Operand.const (Value.int IntKind.i64 (-3))), (4, Operand.const (Value.int IntKind.i64 501)), (5, Operand.const (Value.int IntKind.i64 100))], type := 24, pos := "l08_game.go:189", after := #[], guard := none }) (rs := []) rfl (fun K hK => ?_) AllReadyH.nil
      go_simp
      skip
      refine hK.out _ _ ?_ (fun hHeld => ?_)
      · exact two (HQr.out.only (ho0.alloc (by omega) _) hqp)
      clear hK K
      try simp only [Act.put, List.setIfInBounds_toArray, List.set_cons_zero, List.set_cons_succ]
      refine wpAnyH_ready (rs := [3]) (by kernel_rfl) (by simp) ?_
      refine AllReadyH.cons (o := { dst := some 37, op := Op.call { callee := Callee.value (Operand.func 47), args := #[Operand.tmp 35, Operand.tmp 36], argTypes := #[52, 24] }, type := 3, pos := "l08_game.go:189", after := #[{ on := 1, ground := Ground.data }, { on := 2, ground := Ground.data }], guard := none }) (rs := []) rfl (fun K hK => ?_) AllReadyH.nil
      go_simp
      (go_at_call 47; refine (pick_in w.heap.size p a len cap 6 [1, 2, 0, (-3), 501, 100] #[.int .i64 1, .int .i64 2, .int .i64 0, .int .i64 (-3), .int .i64 501, .int .i64 100] rfl 6 rfl (by decide) (by decide) wr.drew hBp HC.out.drew0 (Hc.out.below HBr.out.drew) _ rfl).mono ?_; rintro e w7 ⟨xk, rfl, _, hc7, ho7⟩; have ho8 := ho0.trans ho7; obtain ⟨d0, d1, f0, f1⟩ := two' (HYr.out.only ho8 (by omega)))
      refine hK.out _ _ ?_ (fun hHeld => ?_)
      · exact two (HQr.out.only ho8 hqp)
      clear hK K
      try simp only [Act.put, List.setIfInBounds_toArray, List.set_cons_zero, List.set_cons_succ]
      have hQs := ((HQr.out.only ho8 hqp).other (p := ⟨w.heap.size, 0, none⟩) (show w.heap.size ≠ w2.heap.size by omega) (.int .i64 gn)).other (p := ⟨w.heap.size, 1, none⟩) (show w.heap.size ≠ w2.heap.size by omega) (.slice av N cv)
      refine wpAnyH_ready (rs := [5]) (by kernel_rfl) (by simp) ?_
      refine AllReadyH.cons (o := { dst := none, op := Op.store 26 (Operand.tmp 2) (Operand.tmp 34), type := 0, pos := "l08_game.go:189", after := #[{ on := 0, ground := Ground.data }, { on := 3, ground := Ground.chain }, { on := 0, ground := Ground.phase }, { on := 1, ground := Ground.textOnly Departure.lateStores }, { on := 2, ground := Ground.textOnly Departure.lateStores }, { on := 3, ground := Ground.textOnly Departure.lateStoresUnsure }, { on := 4, ground := Ground.textOnly Departure.lateStores }], guard := none }) (rs := []) rfl (fun K hK => ?_) AllReadyH.nil
      go_simp
      skip
      refine hK.out _ _ ?_ (fun hHeld => ?_)
      · exact two hQs
      clear hK K
      try simp only [Act.put, List.setIfInBounds_toArray, List.set_cons_zero, List.set_cons_succ]
      refine wpAnyH_take (i := 6) (oi := { dst := some 3, op := Op.assign (Operand.tmp 37), type := 3, pos := "l08_game.go:189", after := #[{ on := 3, ground := Ground.data }, { on := 5, ground := Ground.chain }, { on := 0, ground := Ground.phase }, { on := 1, ground := Ground.phase }, { on := 2, ground := Ground.phase }, { on := 3, ground := Ground.phase }, { on := 4, ground := Ground.textOnly Departure.lateStores }, { on := 5, ground := Ground.phase }], guard := none }) (v := ?_) rfl (by kernel_rfl) (by kernel_rfl) (by kernel_rfl) (fun _ _ _ h => h) (Or.inl ⟨by rfl, ?_⟩) (by assumption) ?_
      rotate_left 1
      · intro w hSw; (try dsimp only at hSw); go_simp; try (with_reducible rfl)
      try simp only [Act.put, List.setIfInBounds_toArray, List.set_cons_zero, List.set_cons_succ]
      refine wpAnyH_take (i := 7) (oi := { dst := some 4, op := Op.assign (Operand.tmp 38), type := 24, pos := "l08_game.go:189", after := #[{ on := 4, ground := Ground.data }, { on := 6, ground := Ground.chain }, { on := 0, ground := Ground.phase }, { on := 1, ground := Ground.phase }, { on := 2, ground := Ground.phase }, { on := 3, ground := Ground.phase }, { on := 4, ground := Ground.phase }, { on := 5, ground := Ground.phase }, { on := 6, ground := Ground.phase }], guard := none }) (v := ?_) rfl (by kernel_rfl) (by kernel_rfl) (by kernel_rfl) (fun _ _ _ h => h) (Or.inl ⟨by rfl, ?_⟩) (by assumption) ?_
      rotate_left 1
      · intro w hSw; (try dsimp only at hSw); go_simp; try (with_reducible rfl)
      try simp only [Act.put, List.setIfInBounds_toArray, List.set_cons_zero, List.set_cons_succ]
      refine wpAnyH_done (by kernel_rfl) ?_ _
      have hA := HXr.out.only ho8 (by omega)
      have n1' := own_apart hA (HYr.out.only ho8 (by omega)).ty (by decide)
      have HA5 := Lib.hid (owns_set (i := 1) (u := .slice av N cv) (owns_set (i := 0) (u := .int .i64 gn) hA n1') n1')
      have hZ := HO.out.only ho8 hp3
      have n2' := own_apart hZ (HYr.out.only ho8 (by omega)).ty (by decide)
      have HZ5 := Lib.hid (owns_set (i := 1) (u := .slice av N cv) (owns_set (i := 0) (u := .int .i64 gn) hZ n2') n2')
      have HE1 := Lib.hid (((HYr.out.only ho8 (by omega)).s0 (.int .i64 gn)).s1 (.slice av N cv))
      have HBe := Lib.hid (((HBr.out.trans (ho8.below hBp)).setCell (p := ⟨w.heap.size, 0, none⟩) (Nat.le_refl _) (.int .i64 gn)).setCell (p := ⟨w.heap.size, 1, none⟩) (Nat.le_refl _) (.slice av N cv))
      clear hA hZ n1' n2' ho8 ho0 d0 d1 f0 f1 hQs hc7 ho7
      go_wp2_with fail
      refine bodyPost_ret (v := .tuple #[.agg #[.int .i64 gn, .slice av N cv], .int .i64 xk, .slice az k cz]) (by
        obtain ⟨z0, z1⟩ := two HE1.out
        revert z0 z1
        generalize ((w7.setCell ⟨w.heap.size, 0, none⟩ (.int .i64 gn)).setCell ⟨w.heap.size, 1, none⟩ (.slice av N cv)) = W4
        intro z0 z1
        simp [results, Try.results15, go_sem, z0, z1]) rfl ⟨⟨gn, gv⟩, _, _, _, zs, rfl, OwnInts.raise2 (by rw [← HL.out] at HA5 ⊢; exact HA5.out) (by omega), bent_ok hn1 hn2 (by simp only; rw [HL.out]; omega), OwnInts.raise2 (by rw [← HLz.out] at HZ5 ⊢; exact HZ5.out) (by omega), by omega, HBe.out⟩
end Go.Proofs.Ytccgebnbpfliiaa
