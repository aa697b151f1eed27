/- The specification's draws of games: l8Draw. -/
import Derived.Test.YtodjapljoimkgaaDrI
import Derived.Test.YtodjapljoimkgaaGmC
import Derived.Test.YtodjapljoimkgaaCoB
namespace Go.Proofs.Ytodjapljoimkgaa
open Go.RowKit
open Gm (G)
theorem made_ints (n : Nat) : (madeCells #[Value.int .i64 0] n).toList = (List.replicate n (0 : Int)).map (Value.int .i64) := by
  apply List.ext_getElem
  · simp [madeCells]
  · intro i h1 h2
    simp [madeCells, Nat.mod_one]
/-- A row of N ints, whatever they are. -/
def RowI (B : Nat) (w : World) (v : Value) (N : Nat) : Prop := ∃ xs : List Int, xs.length = N ∧ OwnInts B w v xs
theorem RowI.only {B p N : Nat} {w w' : World} {v : Value} (h : RowI B w v N) (ho : Only p w w') (hp : p < B) : RowI B w' v N := by
  obtain ⟨xs, hl, hr⟩ := h
  exact ⟨xs, hl, hr.only ho hp⟩
theorem RowI.set {B b k N c : Nat} {w : World} (h : RowI B w (.slice (some ⟨b, 0, none⟩) N c) N) (y : Int) : RowI B (w.setCell ⟨b, k, none⟩ (.int .i64 y)) (.slice (some ⟨b, 0, none⟩) N c) N := by
  obtain ⟨xs, hl, hr⟩ := h
  subst hl
  refine ⟨xs.set k y, by simp, ?_⟩
  have := own_set hr k y
  simpa using this
theorem RowI.spot {B b k N c : Nat} {w : World} (h : RowI B w (.slice (some ⟨b, 0, none⟩) N c) N) (hk : k < N) : (∃ x, w.cell? ⟨b, k, none⟩ = some (.int .i64 x)) ∧ w.frozen? ⟨b, k, none⟩ = false ∧ B ≤ b ∧ b < w.heap.size := by
  obtain ⟨xs, hl, hr⟩ := h
  subst hl
  have := World.ownsRow.lt hr b rfl
  refine ⟨?_, World.ownsRow.frozenAt hr k, this.1, this.2⟩
  rw [World.ownsRow.cellAt hr k (by omega), List.getElem?_map, List.getElem?_eq_getElem hk]
  exact ⟨_, rfl⟩
/-- A game has been drawn. -/
def DrewGm (p : Nat) (a : Option Addr) (len cap : Nat) (w : World) (e : Ending) (w' : World) : Prop :=
  ∃ (g : G) (v : Value), e = .returned (.agg #[.int .i64 g.n, v]) ∧ OwnInts w.heap.size w' v g.v ∧ 1 ≤ g.n ∧ g.n ≤ 5 ∧ g.v.length = 2 ^ g.n.toNat ∧ Cur w' p a len cap ∧ Only p w w'
theorem spec_l1Bit (b : Bool) (w : World) : Calls Try.prog 75 #[.bool b] w fun e w' => (∃ x : Int, e = .returned (.int .i64 x) ∧ 0 ≤ x ∧ x ≤ 1) ∧ w' = w := by
  cases b
  · go_enter Try.func75, Try.ntmps75
    go_wp2_with fail
    go_ret
    exact ⟨⟨0, rfl, by omega, by omega⟩, rfl⟩
  · go_enter Try.func75, Try.ntmps75
    go_wp2_with fail
    go_ret
    exact ⟨⟨1, rfl, by omega, by omega⟩, rfl⟩
theorem spec_l1Max (x y : Int) (w : World) : Calls Try.prog 74 #[.int .i64 x, .int .i64 y] w fun e w' => (∃ z : Int, e = .returned (.int .i64 z) ∧ x ≤ z ∧ y ≤ z ∧ (z = x ∨ z = y)) ∧ w' = w := by
  by_cases h : x > y
  · have hb : decide (x > y) = true := decide_eq_true h
    go_enter Try.func74, Try.ntmps74
    go_wp2_with fail
    go_ret
    exact ⟨⟨x, rfl, by omega, by omega, .inl rfl⟩, rfl⟩
  · have hb : decide (x > y) = false := decide_eq_false h
    go_enter Try.func74, Try.ntmps74
    go_wp2_with fail
    go_ret
    exact ⟨⟨y, rfl, by omega, by omega, .inr rfl⟩, rfl⟩
theorem Cur.drew0 {w : World} {p : Nat} {a : Option Addr} {len cap : Nat} (h : Cur w p a len cap) : Cur w.drew p a len cap := h
theorem Cur.other {w : World} {p q k : Nat} {a : Option Addr} {len cap : Nat} (h : Cur w p a len cap) (hq : q ≠ p) (u : Value) : Cur (w.setCell ⟨q, k, none⟩ u) p a len cap := by
  obtain ⟨i, x, h1, h2, hb⟩ := h
  exact ⟨i, x, h1, h2, by rw [Below.heap_setCell _ _ _ _ (fun e => hq e.symm)]; exact hb⟩
set_option maxRecDepth 100000 in
set_option maxHeartbeats 4000000 in
theorem spec_l8Draw (B p : Nat) (a : Option Addr) (len cap : Nat) (most : Int) (hm1 : 1 ≤ most) (hm5 : most ≤ 5) (w : World) (hB : B ≤ p) (hcur : Cur w p a len cap) (hcode : CodeAt B w a len) :
    Calls Try.prog 62 #[.pointer (some ⟨p, 0, none⟩), .int .i64 most] w (DrewGm p a len cap w) := by
  have hp := hcur.lt
  obtain ⟨i0, hi, hz0, hz1, hz2⟩ := info_parts info_int
  have HI := Lib.hid hi
  have HZ0 := Lib.hid hz0
  have HZ1 := Lib.hid hz1
  have Hz2 := Lib.hid hz2
  have Hc := Lib.hid hcode
  have HU0 := Lib.hid (hcur.alloc (.cells #[.int .i64 0, .slice none 0 0] 26))
  have HN0 := Lib.hid (CellsAt.new w #[.int .i64 0, .slice none 0 0] 26)
  have HO0 := Lib.hid ((Only.refl p w).alloc (by omega) (.cells #[.int .i64 0, .slice none 0 0] 26))
  clear hi hz0 hz1 hz2 hcur hcode
  go_enter Try.func62, Try.ntmps62
  go_wp2_with fail
  refine (spec_l1Below B p a len cap most hm1 (by omega) _ hB HU0.out (Hc.out.below (HO0.out.below hB))).mono ?_
  rintro e w1 ⟨x, rfl, hx0, hx1, hc1, ho1⟩
  obtain ⟨m, hm⟩ : ∃ m : Nat, 1 + x = m := ⟨(1 + x).toNat, by omega⟩
  have hmm1 : 1 ≤ m := by omega
  have hmm5 : m ≤ 5 := by omega
  have hx : x = (m : Int) - 1 := by omega
  subst hx
  have HU1 := Lib.hid hc1
  have HO1 := Lib.hid (HO0.out.trans ho1)
  have HN1 := Lib.hid (HN0.out.only ho1 (by omega))
  have Hadd : Hid ((1 : Int) + ((m : Int) - 1) = m) := by show _ = _; omega
  have hsz1 : w.heap.size + 1 ≤ w1.heap.size := by have := ho1.low.size; rw [size1] at this; omega
  clear hc1 ho1 hm hx0 hx1 HU0 HO0 HN0
  go_wp2_with fail
  rw [Hadd.out]
  refine (spec_CountCoalitions m hmm5 w1).mono ?_
  rintro e w9 ⟨rfl, rfl⟩
  have hp2 : 2 ≤ 2 ^ m := by
    have h9 : 2 ^ 1 ≤ 2 ^ m := Nat.pow_le_pow_right (by omega) hmm1
    omega
  have hp32 : 2 ^ m ≤ 32 := Nat.pow_le_pow_right (by omega) hmm5
  obtain ⟨N, hN⟩ : ∃ N, 2 ^ m = N := ⟨_, rfl⟩
  rw [hN] at hp2 hp32 ⊢
  have HNN := Lib.hid hN
  have Hby : Hid (i0.bytes * N ≤ 281474976710656) := by show _ ≤ _; rw [Hz2.out]; omega
  clear hN Hadd
  go_wp2_with (refine wpList_make_full _ rfl _ _ 24 rfl w.heap.size 3 i0 (.int .i64 0) 1 Try.underlying24 HI.out HZ0.out HZ1.out _ _ _ _ N rfl rfl rfl rfl Hby.out ?c1 (by omega) ?_)
  case c1 => unfold maxLen; omega
  intro w2 hown hgrow
  rw [made_ints] at hown
  have hrow : RowI w.heap.size w2 (.slice (some ⟨w1.heap.size, 0, none⟩) N N) N := ⟨List.replicate N 0, by simp, by unfold OwnInts; rw [List.length_replicate]; exact hown⟩
  have hO2 : Only p w1 w2 := (Only.refl p w1).grown (by have := HO1.out.low.size; omega) hgrow (fun g hg => by cases hg)
  have hbw : w1.heap.size < w2.heap.size := (hown.lt _ rfl).2
  have HU2 := Lib.hid (HU1.out.grown hgrow (by simp))
  have HO2 := Lib.hid (HO1.out.trans hO2)
  have HN2 := Lib.hid (HN1.out.only hO2 (by omega))
  have HR2 := Lib.hid hrow
  clear hown hgrow hrow hO2 HU1 HO1 HN1
  generalize w1.heap.size = b at *
  obtain ⟨q, hq⟩ : ∃ q, w2.heap.size = q := ⟨_, rfl⟩
  have HQ3 := Lib.hid (CellsAt.new w2 #[.int .i64 m, .slice (some ⟨b, 0, none⟩) N N] 26)
  have HU3 := Lib.hid (HU2.out.alloc (.cells #[.int .i64 m, .slice (some ⟨b, 0, none⟩) N N] 26))
  have HO3 := Lib.hid (HO2.out.alloc (by omega) (.cells #[.int .i64 m, .slice (some ⟨b, 0, none⟩) N N] 26))
  have HN3 := Lib.hid (HN2.out.more (.cells #[.int .i64 m, .slice (some ⟨b, 0, none⟩) N N] 26))
  have HR3 : Hid (RowI w.heap.size (w2.alloc (.cells #[.int .i64 m, .slice (some ⟨b, 0, none⟩) N N] 26)) (.slice (some ⟨b, 0, none⟩) N N) N) := by
    obtain ⟨xs, h1, h2⟩ := HR2.out
    exact ⟨xs, h1, h2.alloc _⟩
  clear HU2 HO2 HN2 HR2
  go_wp2_with fail
  refine (spec_l1Below B p a len cap 4 (by decide) (by decide) _ hB HU3.out (Hc.out.below (HO3.out.below hB))).mono ?_
  rintro e w4 ⟨x, rfl, hx0, hx1, hc1, ho1⟩
  have HU4 := Lib.hid hc1
  have HO4 := Lib.hid (HO3.out.trans ho1)
  have hqp : q ≠ p := by have := HO3.out.low.size; omega
  have HQ4 : Hid (CellsAt w4 q #[.int .i64 m, .slice (some ⟨b, 0, none⟩) N N] 26) := by rw [← hq]; exact HQ3.out.only ho1 (by omega)
  have HN4 := Lib.hid (HN3.out.only ho1 (by omega))
  have HR4 := Lib.hid (HR3.out.only ho1 hp)
  have hbq : b ≠ q := by omega
  clear hc1 ho1 HU3 HO3 HQ3 HN3 HR3 hq hbw
  go_wp2_with fail
  go_loopw [8] (fun i wr => ∃ k : Nat, 1 ≤ k ∧ k ≤ N ∧ i = .int .i64 k ∧ Hid (CellsAt wr q #[.int .i64 m, .slice (some ⟨b, 0, none⟩) N N] 26) ∧ Hid (CellsAt wr w.heap.size #[.int .i64 0, .slice none 0 0] 26) ∧ Hid (RowI w.heap.size wr (.slice (some ⟨b, 0, none⟩) N N) N) ∧ Hid (Cur wr p a len cap) ∧ Hid (Only p w wr)) (fun i _ => N - (intOf i).toNat)
  case atStart => exact ⟨1, by omega, by omega, rfl, HQ4, HN4, HR4, HU4, HO4⟩
  case round =>
    obtain ⟨k, hk1, hk, rfl, hQ, hZ, hR, hC, hOn⟩ := hrel
    obtain ⟨y0, y1⟩ := two hQ.out
    by_cases hlt : k < N
    · have Cell := Lib.hid (fun w' (h : Only p wr w') => (show w'.cell? ⟨q, 1, none⟩ = some (.slice (some ⟨b, 0, none⟩) N N) ∧ Only p wr w' from ⟨h.cell (a := ⟨q, 1, none⟩) hqp y1, h⟩))
      have ho0 : Only p wr wr.drew := (Only.refl p wr).drew
      have hwz := hOn.out.low.size
      by_cases e0 : x = 0
      · have d0 : (x == 0) = true := by rw [e0]; rfl
        clear e0
        go_upto_region 10 with fail
        refine wp_region_T_drew (S := (fun w' => w'.cell? ⟨q, 1, none⟩ = some (.slice (some ⟨b, 0, none⟩) N N) ∧ Only p wr w')) 12 (by kernel_rfl) ?_ (fun hHeld => ?_)
        · exact Cell.out _ ho0
        refine wpAnyT_take (i := 0) (oi := { dst := some 45, op := Op.fieldAddr 26 (Operand.tmp 6) 1, type := 0, pos := "l08_game.go:117", after := #[], guard := none }) (v := ?_) rfl (by kernel_rfl) (fun _ _ _ h => h) (Or.inl ⟨by rfl, ?_⟩) (by assumption) ?_
        rotate_left 1
        · intro w hSw; (try dsimp only at hSw); go_simp; try (with_reducible rfl)
        try simp only [Act.put, List.setIfInBounds_toArray, List.set_cons_zero, List.set_cons_succ]
        refine wpAnyT_take (i := 1) (oi := { dst := some 46, op := Op.load 24 (Operand.tmp 45), type := 24, pos := "l08_game.go:117", after := #[{ on := 0, ground := Ground.data }], guard := none }) (v := ?_) rfl (by kernel_rfl) (fun _ _ _ h => h) (Or.inl ⟨by rfl, ?_⟩) (by assumption) ?_
        rotate_left 1
        · intro w hSw; (try dsimp only at hSw); go_simp; try (with_reducible rfl)
        try simp only [Act.put, List.setIfInBounds_toArray, List.set_cons_zero, List.set_cons_succ]
        refine wpAnyT_take (i := 2) (oi := { dst := some 47, op := Op.move (Operand.tmp 8), type := 3, pos := "l08_game.go:117", after := #[], guard := none }) (v := ?_) rfl (by kernel_rfl) (fun _ _ _ h => h) (Or.inl ⟨by rfl, ?_⟩) (by assumption) ?_
        rotate_left 1
        · intro w hSw; (try dsimp only at hSw); go_simp; try (with_reducible rfl)
        try simp only [Act.put, List.setIfInBounds_toArray, List.set_cons_zero, List.set_cons_succ]
        refine wpAnyT_take (i := 3) (oi := { dst := some 48, op := Op.move (Operand.tmp 8), type := 3, pos := "l08_game.go:117", after := #[], guard := none }) (v := ?_) rfl (by kernel_rfl) (fun _ _ _ h => h) (Or.inl ⟨by rfl, ?_⟩) (by assumption) ?_
        rotate_left 1
        · intro w hSw; (try dsimp only at hSw); go_simp; try (with_reducible rfl)
        try simp only [Act.put, List.setIfInBounds_toArray, List.set_cons_zero, List.set_cons_succ]
        refine wpAnyT_take (i := 5) (oi := { dst := some 50, op := Op.move (Operand.tmp 8), type := 3, pos := "l08_game.go:117", after := #[], guard := none }) (v := ?_) rfl (by kernel_rfl) (fun _ _ _ h => h) (Or.inl ⟨by rfl, ?_⟩) (by assumption) ?_
        rotate_left 1
        · intro w hSw; (try dsimp only at hSw); go_simp; try (with_reducible rfl)
        try simp only [Act.put, List.setIfInBounds_toArray, List.set_cons_zero, List.set_cons_succ]
        refine wpAnyT_take (i := 8) (oi := { dst := some 53, op := Op.move (Operand.tmp 0), type := 45, pos := "l08_game.go:117", after := #[], guard := none }) (v := ?_) rfl (by kernel_rfl) (fun _ _ _ h => h) (Or.inl ⟨by rfl, ?_⟩) (by assumption) ?_
        rotate_left 1
        · intro w hSw; (try dsimp only at hSw); go_simp; try (with_reducible rfl)
        try simp only [Act.put, List.setIfInBounds_toArray, List.set_cons_zero, List.set_cons_succ]
        refine wpAnyT_ready (rs := [4]) (by kernel_rfl) (by simp) ?_
        refine (AllReadyT.cons (o := { dst := some 49, op := Op.call { callee := Callee.value (Operand.func 73), args := #[Operand.tmp 48], argTypes := #[3] }, type := 3, pos := "l08_game.go:117", after := #[{ on := 3, ground := Ground.data }], guard := none }) (rs := []) rfl (fun K hK => ?_) AllReadyT.nil)
        go_simp
        (go_at_call 73; refine (spec_SizeOf k (by omega) _).mono ?_; rintro e w9 ⟨rfl, rfl⟩)
        refine hK.out _ _ ?_ (fun hHeld => ?_)
        · exact Cell.out _ ho0
        clear hK K
        try simp only [Act.put, List.setIfInBounds_toArray, List.set_cons_zero, List.set_cons_succ]
        refine wpAnyT_ready (rs := [6]) (by kernel_rfl) (by simp) ?_
        refine (AllReadyT.cons (o := { dst := some 51, op := Op.call { callee := Callee.value (Operand.func 73), args := #[Operand.tmp 50], argTypes := #[3] }, type := 3, pos := "l08_game.go:117", after := #[{ on := 5, ground := Ground.data }, { on := 4, ground := Ground.chain }], guard := none }) (rs := []) rfl (fun K hK => ?_) AllReadyT.nil)
        go_simp
        (go_at_call 73; refine (spec_SizeOf k (by omega) _).mono ?_; rintro e w9 ⟨rfl, rfl⟩)
        refine hK.out _ _ ?_ (fun hHeld => ?_)
        · exact Cell.out _ ho0
        clear hK K
        try simp only [Act.put, List.setIfInBounds_toArray, List.set_cons_zero, List.set_cons_succ]
        refine wpAnyT_take (i := 7) (oi := { dst := some 52, op := Op.binOp BinOp.mul 3 (Operand.tmp 49) (Operand.tmp 51) 3, type := 3, pos := "l08_game.go:117", after := #[{ on := 4, ground := Ground.data }, { on := 6, ground := Ground.data }], guard := none }) (v := ?_) rfl (by kernel_rfl) (fun _ _ _ h => h) (Or.inl ⟨by rfl, ?_⟩) (by assumption) ?_
        rotate_left 1
        · intro w hSw; (try dsimp only at hSw); go_simp; try (with_reducible rfl)
        try simp only [Act.put, List.setIfInBounds_toArray, List.set_cons_zero, List.set_cons_succ]
        refine wpAnyT_ready (rs := [9]) (by kernel_rfl) (by simp) ?_
        refine (AllReadyT.cons (o := { dst := some 54, op := Op.call { callee := Callee.value (Operand.func 63), args := #[Operand.tmp 53, Operand.const (Value.int IntKind.i64 2)], argTypes := #[45, 3] }, type := 3, pos := "l08_game.go:117", after := #[{ on := 8, ground := Ground.data }, { on := 6, ground := Ground.chain }], guard := none }) (rs := []) rfl (fun K hK => ?_) AllReadyT.nil)
        go_simp
        (go_at_call 63; refine (spec_l1Below B p a len cap 2 (by decide) (by decide) wr.drew hB hC.out.drew0 (Hc.out.below (hOn.out.drew.below hB))).mono ?_; rintro e w2 ⟨xb, rfl, _, _, hc2, ho2⟩; have ho3 := ho0.trans ho2)
        refine hK.out _ _ ?_ (fun hHeld => ?_)
        · exact Cell.out _ ho3
        clear hK K
        try simp only [Act.put, List.setIfInBounds_toArray, List.set_cons_zero, List.set_cons_succ]
        refine wpAnyT_take (i := 10) (oi := { dst := some 55, op := Op.binOp BinOp.add 3 (Operand.tmp 52) (Operand.tmp 54) 3, type := 3, pos := "l08_game.go:117", after := #[{ on := 7, ground := Ground.data }, { on := 9, ground := Ground.data }], guard := none }) (v := ?_) rfl (by kernel_rfl) (fun _ _ _ h => h) (Or.inl ⟨by rfl, ?_⟩) (by assumption) ?_
        rotate_left 1
        · intro w hSw; (try dsimp only at hSw); go_simp; try (with_reducible rfl)
        try simp only [Act.put, List.setIfInBounds_toArray, List.set_cons_zero, List.set_cons_succ]
        refine wpAnyT_take (i := 11) (oi := { dst := some 56, op := Op.indexAddr 24 (Operand.tmp 46) (Operand.tmp 47), type := 0, pos := "l08_game.go:117", after := #[{ on := 1, ground := Ground.data }, { on := 2, ground := Ground.data }, { on := 0, ground := Ground.phase }, { on := 1, ground := Ground.phase }, { on := 2, ground := Ground.phase }, { on := 3, ground := Ground.phase }, { on := 4, ground := Ground.phase }, { on := 5, ground := Ground.phase }, { on := 6, ground := Ground.phase }, { on := 7, ground := Ground.phase }, { on := 8, ground := Ground.phase }, { on := 9, ground := Ground.phase }, { on := 10, ground := Ground.phase }], guard := none }) (v := ?_) rfl (by kernel_rfl) (fun _ _ _ h => h) (Or.inl ⟨by rfl, ?_⟩) (by assumption) ?_
        rotate_left 1
        · intro w hSw; (try dsimp only at hSw); go_simp; try (with_reducible rfl)
        try simp only [Act.put, List.setIfInBounds_toArray, List.set_cons_zero, List.set_cons_succ]
        have hR2 := hR.out.only ho3 hp
        obtain ⟨⟨xc, c3⟩, f3, hbB, hbl⟩ := hR2.spot hlt
        refine wpAnyT_ready (rs := [12]) (by kernel_rfl) (by simp) ?_
        refine (AllReadyT.last (o := { dst := none, op := Op.store 3 (Operand.tmp 56) (Operand.tmp 55), type := 0, pos := "l08_game.go:117", after := #[{ on := 11, ground := Ground.data }, { on := 10, ground := Ground.data }, { on := 9, ground := Ground.chain }, { on := 0, ground := Ground.phase }, { on := 1, ground := Ground.phase }, { on := 2, ground := Ground.phase }, { on := 3, ground := Ground.phase }, { on := 4, ground := Ground.phase }, { on := 5, ground := Ground.phase }, { on := 6, ground := Ground.phase }, { on := 7, ground := Ground.phase }, { on := 8, ground := Ground.phase }, { on := 9, ground := Ground.phase }, { on := 10, ground := Ground.phase }], guard := none }) (rs := []) rfl (by rfl) (fun K hK => ?_) AllReadyT.nil)
        go_simp
        refine hK.out _ _ ?_
        clear hK K
        refine wpAnyT_done (by kernel_rfl) ?_ _
        have HRn := Lib.hid (fun Y : Int => hR2.set (k := k) Y)
        have HQn := Lib.hid (fun Y : Int => (hQ.out.only ho3 hqp).other (p := ⟨b, k, none⟩) hbq (.int .i64 Y))
        have HZn := Lib.hid (fun Y : Int => (hZ.out.only ho3 (by omega)).other (p := ⟨b, k, none⟩) (show b ≠ w.heap.size by omega) (.int .i64 Y))
        have HCn := Lib.hid (fun Y : Int => hc2.other (q := b) (k := k) (by omega) (.int .i64 Y))
        have HOn := Lib.hid (fun Y : Int => (hOn.out.trans ho3).setOwn (by omega) (show w.heap.size ≤ b by omega) k (.int .i64 Y))
        clear c3 f3 hR2 ho3 ho0 Cell hc2 ho2
        go_wp2_with fail
        go_roundw
        case rel => exact ⟨k + 1, by omega, by omega, by go_num, HQn.out _, HZn.out _, HRn.out _, HCn.out _, HOn.out _⟩
        case measure => simp [intOf]; omega

      · have d0 : (x == 0) = false := by simpa using e0
        by_cases e1 : x = 1
        · have d1 : (x == 1) = true := by rw [e1]; rfl
          clear e0 e1
          go_upto_region 12 with fail
          refine wp_region_T_drew (S := (fun w' => w'.cell? ⟨q, 1, none⟩ = some (.slice (some ⟨b, 0, none⟩) N N) ∧ Only p wr w')) 7 (by kernel_rfl) ?_ (fun hHeld => ?_)
          · exact Cell.out _ ho0
          refine wpAnyT_take (i := 0) (oi := { dst := some 59, op := Op.fieldAddr 26 (Operand.tmp 6) 1, type := 0, pos := "l08_game.go:119", after := #[], guard := none }) (v := ?_) rfl (by kernel_rfl) (fun _ _ _ h => h) (Or.inl ⟨by rfl, ?_⟩) (by assumption) ?_
          rotate_left 1
          · intro w hSw; (try dsimp only at hSw); go_simp; try (with_reducible rfl)
          try simp only [Act.put, List.setIfInBounds_toArray, List.set_cons_zero, List.set_cons_succ]
          refine wpAnyT_take (i := 1) (oi := { dst := some 60, op := Op.load 24 (Operand.tmp 59), type := 24, pos := "l08_game.go:119", after := #[{ on := 0, ground := Ground.data }], guard := none }) (v := ?_) rfl (by kernel_rfl) (fun _ _ _ h => h) (Or.inl ⟨by rfl, ?_⟩) (by assumption) ?_
          rotate_left 1
          · intro w hSw; (try dsimp only at hSw); go_simp; try (with_reducible rfl)
          try simp only [Act.put, List.setIfInBounds_toArray, List.set_cons_zero, List.set_cons_succ]
          refine wpAnyT_take (i := 2) (oi := { dst := some 61, op := Op.move (Operand.tmp 8), type := 3, pos := "l08_game.go:119", after := #[], guard := none }) (v := ?_) rfl (by kernel_rfl) (fun _ _ _ h => h) (Or.inl ⟨by rfl, ?_⟩) (by assumption) ?_
          rotate_left 1
          · intro w hSw; (try dsimp only at hSw); go_simp; try (with_reducible rfl)
          try simp only [Act.put, List.setIfInBounds_toArray, List.set_cons_zero, List.set_cons_succ]
          refine wpAnyT_take (i := 3) (oi := { dst := some 62, op := Op.move (Operand.tmp 0), type := 45, pos := "l08_game.go:119", after := #[], guard := none }) (v := ?_) rfl (by kernel_rfl) (fun _ _ _ h => h) (Or.inl ⟨by rfl, ?_⟩) (by assumption) ?_
          rotate_left 1
          · intro w hSw; (try dsimp only at hSw); go_simp; try (with_reducible rfl)
          try simp only [Act.put, List.setIfInBounds_toArray, List.set_cons_zero, List.set_cons_succ]
          refine wpAnyT_ready (rs := [4]) (by kernel_rfl) (by simp) ?_
          refine (AllReadyT.cons (o := { dst := some 63, op := Op.buildSlice 24 8 #[(0, Operand.const (Value.int IntKind.i64 0)), (1, Operand.const (Value.int IntKind.i64 1)), (2, Operand.const (Value.int IntKind.i64 2)), (3, Operand.const (Value.int IntKind.i64 3)), (4, Operand.const (Value.int IntKind.i64 5)), (5, Operand.const (Value.int IntKind.i64 8)), (6, Operand.const (Value.int IntKind.i64 (-2))), (7, Operand.const (Value.int IntKind.i64 4))], type := 24, pos := "l08_game.go:119", after := #[], guard := none }) (rs := []) rfl (fun K hK => ?_) AllReadyT.nil)
          go_simp
          refine hK.out _ _ ?_ (fun hHeld => ?_)
          · exact Cell.out _ (ho0.alloc (by omega) _)
          clear hK K
          try simp only [Act.put, List.setIfInBounds_toArray, List.set_cons_zero, List.set_cons_succ]
          refine wpAnyT_ready (rs := [5]) (by kernel_rfl) (by simp) ?_
          refine (AllReadyT.cons (o := { dst := some 64, op := Op.call { callee := Callee.value (Operand.func 64), args := #[Operand.tmp 62, Operand.tmp 63], argTypes := #[45, 24] }, type := 3, pos := "l08_game.go:119", after := #[{ on := 3, ground := Ground.data }, { on := 4, ground := Ground.data }], guard := none }) (rs := []) rfl (fun K hK => ?_) AllReadyT.nil)
          go_simp
          (go_at_call 64; refine (pick_in B p a len cap 8 [0, 1, 2, 3, 5, 8, (-2), 4] #[.int .i64 0, .int .i64 1, .int .i64 2, .int .i64 3, .int .i64 5, .int .i64 8, .int .i64 (-2), .int .i64 4] rfl 8 rfl (by decide) (by decide) wr.drew hB hC.out.drew0 (Hc.out.below (hOn.out.drew.below hB)) _ rfl).mono ?_; rintro e w2 ⟨xb, rfl, _, hc2, ho2⟩; have ho3 := ho0.trans ho2)
          refine hK.out _ _ ?_ (fun hHeld => ?_)
          · exact Cell.out _ ho3
          clear hK K
          try simp only [Act.put, List.setIfInBounds_toArray, List.set_cons_zero, List.set_cons_succ]
          refine wpAnyT_take (i := 6) (oi := { dst := some 65, op := Op.indexAddr 24 (Operand.tmp 60) (Operand.tmp 61), type := 0, pos := "l08_game.go:119", after := #[{ on := 1, ground := Ground.data }, { on := 2, ground := Ground.data }, { on := 0, ground := Ground.phase }, { on := 1, ground := Ground.phase }, { on := 2, ground := Ground.phase }, { on := 3, ground := Ground.phase }, { on := 4, ground := Ground.phase }, { on := 5, ground := Ground.phase }], guard := none }) (v := ?_) rfl (by kernel_rfl) (fun _ _ _ h => h) (Or.inl ⟨by rfl, ?_⟩) (by assumption) ?_
          rotate_left 1
          · intro w hSw; (try dsimp only at hSw); go_simp; try (with_reducible rfl)
          try simp only [Act.put, List.setIfInBounds_toArray, List.set_cons_zero, List.set_cons_succ]
          have hR2 := hR.out.only ho3 hp
          obtain ⟨⟨xc, c3⟩, f3, hbB, hbl⟩ := hR2.spot hlt
          refine wpAnyT_ready (rs := [7]) (by kernel_rfl) (by simp) ?_
          refine (AllReadyT.last (o := { dst := none, op := Op.store 3 (Operand.tmp 65) (Operand.tmp 64), type := 0, pos := "l08_game.go:119", after := #[{ on := 6, ground := Ground.data }, { on := 5, ground := Ground.data }, { on := 5, ground := Ground.chain }, { on := 0, ground := Ground.phase }, { on := 1, ground := Ground.phase }, { on := 2, ground := Ground.phase }, { on := 3, ground := Ground.phase }, { on := 4, ground := Ground.phase }, { on := 5, ground := Ground.phase }], guard := none }) (rs := []) rfl (by rfl) (fun K hK => ?_) AllReadyT.nil)
          go_simp
          refine hK.out _ _ ?_
          clear hK K
          refine wpAnyT_done (by kernel_rfl) ?_ _
          have HRn := Lib.hid (fun Y : Int => hR2.set (k := k) Y)
          have HQn := Lib.hid (fun Y : Int => (hQ.out.only ho3 hqp).other (p := ⟨b, k, none⟩) hbq (.int .i64 Y))
          have HZn := Lib.hid (fun Y : Int => (hZ.out.only ho3 (by omega)).other (p := ⟨b, k, none⟩) (show b ≠ w.heap.size by omega) (.int .i64 Y))
          have HCn := Lib.hid (fun Y : Int => hc2.other (q := b) (k := k) (by omega) (.int .i64 Y))
          have HOn := Lib.hid (fun Y : Int => (hOn.out.trans ho3).setOwn (by omega) (show w.heap.size ≤ b by omega) k (.int .i64 Y))
          clear c3 f3 hR2 ho3 ho0 Cell hc2 ho2
          go_wp2_with fail
          go_roundw
          case rel => exact ⟨k + 1, by omega, by omega, by go_num, HQn.out _, HZn.out _, HRn.out _, HCn.out _, HOn.out _⟩
          case measure => simp [intOf]; omega

        · have d1 : (x == 1) = false := by simpa using e1
          by_cases e2 : x = 2
          · have d2 : (x == 2) = true := by rw [e2]; rfl
            clear e0 e1 e2
            go_upto_region 14 with fail
            refine wp_region_T_drew (S := (fun w' => w'.cell? ⟨q, 1, none⟩ = some (.slice (some ⟨b, 0, none⟩) N N) ∧ Only p wr w')) 12 (by kernel_rfl) ?_ (fun hHeld => ?_)
            · exact Cell.out _ ho0
            refine wpAnyT_take (i := 0) (oi := { dst := some 68, op := Op.fieldAddr 26 (Operand.tmp 6) 1, type := 0, pos := "l08_game.go:121", after := #[], guard := none }) (v := ?_) rfl (by kernel_rfl) (fun _ _ _ h => h) (Or.inl ⟨by rfl, ?_⟩) (by assumption) ?_
            rotate_left 1
            · intro w hSw; (try dsimp only at hSw); go_simp; try (with_reducible rfl)
            try simp only [Act.put, List.setIfInBounds_toArray, List.set_cons_zero, List.set_cons_succ]
            refine wpAnyT_take (i := 1) (oi := { dst := some 69, op := Op.load 24 (Operand.tmp 68), type := 24, pos := "l08_game.go:121", after := #[{ on := 0, ground := Ground.data }], guard := none }) (v := ?_) rfl (by kernel_rfl) (fun _ _ _ h => h) (Or.inl ⟨by rfl, ?_⟩) (by assumption) ?_
            rotate_left 1
            · intro w hSw; (try dsimp only at hSw); go_simp; try (with_reducible rfl)
            try simp only [Act.put, List.setIfInBounds_toArray, List.set_cons_zero, List.set_cons_succ]
            refine wpAnyT_take (i := 2) (oi := { dst := some 70, op := Op.move (Operand.tmp 8), type := 3, pos := "l08_game.go:121", after := #[], guard := none }) (v := ?_) rfl (by kernel_rfl) (fun _ _ _ h => h) (Or.inl ⟨by rfl, ?_⟩) (by assumption) ?_
            rotate_left 1
            · intro w hSw; (try dsimp only at hSw); go_simp; try (with_reducible rfl)
            try simp only [Act.put, List.setIfInBounds_toArray, List.set_cons_zero, List.set_cons_succ]
            refine wpAnyT_take (i := 3) (oi := { dst := some 71, op := Op.move (Operand.tmp 8), type := 3, pos := "l08_game.go:121", after := #[], guard := none }) (v := ?_) rfl (by kernel_rfl) (fun _ _ _ h => h) (Or.inl ⟨by rfl, ?_⟩) (by assumption) ?_
            rotate_left 1
            · intro w hSw; (try dsimp only at hSw); go_simp; try (with_reducible rfl)
            try simp only [Act.put, List.setIfInBounds_toArray, List.set_cons_zero, List.set_cons_succ]
            refine wpAnyT_take (i := 7) (oi := { dst := some 75, op := Op.move (Operand.tmp 0), type := 45, pos := "l08_game.go:121", after := #[], guard := none }) (v := ?_) rfl (by kernel_rfl) (fun _ _ _ h => h) (Or.inl ⟨by rfl, ?_⟩) (by assumption) ?_
            rotate_left 1
            · intro w hSw; (try dsimp only at hSw); go_simp; try (with_reducible rfl)
            try simp only [Act.put, List.setIfInBounds_toArray, List.set_cons_zero, List.set_cons_succ]
            refine wpAnyT_ready (rs := [4]) (by kernel_rfl) (by simp) ?_
            refine (AllReadyT.cons (o := { dst := some 72, op := Op.call { callee := Callee.value (Operand.func 73), args := #[Operand.tmp 71], argTypes := #[3] }, type := 3, pos := "l08_game.go:121", after := #[{ on := 3, ground := Ground.data }], guard := none }) (rs := []) rfl (fun K hK => ?_) AllReadyT.nil)
            go_simp
            (go_at_call 73; refine (spec_SizeOf k (by omega) _).mono ?_; rintro e w9 ⟨rfl, rfl⟩)
            refine hK.out _ _ ?_ (fun hHeld => ?_)
            · exact Cell.out _ ho0
            clear hK K
            try simp only [Act.put, List.setIfInBounds_toArray, List.set_cons_zero, List.set_cons_succ]
            refine wpAnyT_take (i := 5) (oi := { dst := some 73, op := Op.binOp BinOp.mul 3 (Operand.const (Value.int IntKind.i64 3)) (Operand.tmp 72) 3, type := 3, pos := "l08_game.go:121", after := #[{ on := 4, ground := Ground.data }], guard := none }) (v := ?_) rfl (by kernel_rfl) (fun _ _ _ h => h) (Or.inl ⟨by rfl, ?_⟩) (by assumption) ?_
            rotate_left 1
            · intro w hSw; (try dsimp only at hSw); go_simp; try (with_reducible rfl)
            try simp only [Act.put, List.setIfInBounds_toArray, List.set_cons_zero, List.set_cons_succ]
            refine wpAnyT_take (i := 6) (oi := { dst := some 74, op := Op.binOp BinOp.sub 3 (Operand.tmp 73) (Operand.const (Value.int IntKind.i64 2)) 3, type := 3, pos := "l08_game.go:121", after := #[{ on := 5, ground := Ground.data }], guard := none }) (v := ?_) rfl (by kernel_rfl) (fun _ _ _ h => h) (Or.inl ⟨by rfl, ?_⟩) (by assumption) ?_
            rotate_left 1
            · intro w hSw; (try dsimp only at hSw); go_simp; try (with_reducible rfl)
            try simp only [Act.put, List.setIfInBounds_toArray, List.set_cons_zero, List.set_cons_succ]
            refine wpAnyT_ready (rs := [8]) (by kernel_rfl) (by simp) ?_
            refine (AllReadyT.cons (o := { dst := some 76, op := Op.call { callee := Callee.value (Operand.func 63), args := #[Operand.tmp 75, Operand.const (Value.int IntKind.i64 2)], argTypes := #[45, 3] }, type := 3, pos := "l08_game.go:121", after := #[{ on := 7, ground := Ground.data }, { on := 4, ground := Ground.chain }], guard := none }) (rs := []) rfl (fun K hK => ?_) AllReadyT.nil)
            go_simp
            (go_at_call 63; refine (spec_l1Below B p a len cap 2 (by decide) (by decide) wr.drew hB hC.out.drew0 (Hc.out.below (hOn.out.drew.below hB))).mono ?_; rintro e w2 ⟨xb, rfl, _, _, hc2, ho2⟩; have ho3 := ho0.trans ho2)
            refine hK.out _ _ ?_ (fun hHeld => ?_)
            · exact Cell.out _ ho3
            clear hK K
            try simp only [Act.put, List.setIfInBounds_toArray, List.set_cons_zero, List.set_cons_succ]
            refine wpAnyT_take (i := 9) (oi := { dst := some 77, op := Op.binOp BinOp.sub 3 (Operand.tmp 74) (Operand.tmp 76) 3, type := 3, pos := "l08_game.go:121", after := #[{ on := 6, ground := Ground.data }, { on := 8, ground := Ground.data }], guard := none }) (v := ?_) rfl (by kernel_rfl) (fun _ _ _ h => h) (Or.inl ⟨by rfl, ?_⟩) (by assumption) ?_
            rotate_left 1
            · intro w hSw; (try dsimp only at hSw); go_simp; try (with_reducible rfl)
            try simp only [Act.put, List.setIfInBounds_toArray, List.set_cons_zero, List.set_cons_succ]
            refine wpAnyT_ready (rs := [10]) (by kernel_rfl) (by simp) ?_
            refine (AllReadyT.cons (o := { dst := some 78, op := Op.call { callee := Callee.value (Operand.func 74), args := #[Operand.const (Value.int IntKind.i64 0), Operand.tmp 77], argTypes := #[3, 3] }, type := 3, pos := "l08_game.go:121", after := #[{ on := 9, ground := Ground.data }, { on := 8, ground := Ground.chain }], guard := none }) (rs := []) rfl (fun K hK => ?_) AllReadyT.nil)
            go_simp
            (go_at_call 74; refine (spec_l1Max _ _ _).mono ?_; rintro e w9 ⟨⟨xm, rfl, _⟩, rfl⟩)
            refine hK.out _ _ ?_ (fun hHeld => ?_)
            · exact Cell.out _ ho3
            clear hK K
            try simp only [Act.put, List.setIfInBounds_toArray, List.set_cons_zero, List.set_cons_succ]
            refine wpAnyT_take (i := 11) (oi := { dst := some 79, op := Op.indexAddr 24 (Operand.tmp 69) (Operand.tmp 70), type := 0, pos := "l08_game.go:121", after := #[{ on := 1, ground := Ground.data }, { on := 2, ground := Ground.data }, { on := 0, ground := Ground.phase }, { on := 1, ground := Ground.phase }, { on := 2, ground := Ground.phase }, { on := 3, ground := Ground.phase }, { on := 4, ground := Ground.phase }, { on := 5, ground := Ground.phase }, { on := 6, ground := Ground.phase }, { on := 7, ground := Ground.phase }, { on := 8, ground := Ground.phase }, { on := 9, ground := Ground.phase }, { on := 10, ground := Ground.phase }], guard := none }) (v := ?_) rfl (by kernel_rfl) (fun _ _ _ h => h) (Or.inl ⟨by rfl, ?_⟩) (by assumption) ?_
            rotate_left 1
            · intro w hSw; (try dsimp only at hSw); go_simp; try (with_reducible rfl)
            try simp only [Act.put, List.setIfInBounds_toArray, List.set_cons_zero, List.set_cons_succ]
            have hR2 := hR.out.only ho3 hp
            obtain ⟨⟨xc, c3⟩, f3, hbB, hbl⟩ := hR2.spot hlt
            refine wpAnyT_ready (rs := [12]) (by kernel_rfl) (by simp) ?_
            refine (AllReadyT.last (o := { dst := none, op := Op.store 3 (Operand.tmp 79) (Operand.tmp 78), type := 0, pos := "l08_game.go:121", after := #[{ on := 11, ground := Ground.data }, { on := 10, ground := Ground.data }, { on := 10, ground := Ground.chain }, { on := 0, ground := Ground.phase }, { on := 1, ground := Ground.phase }, { on := 2, ground := Ground.phase }, { on := 3, ground := Ground.phase }, { on := 4, ground := Ground.phase }, { on := 5, ground := Ground.phase }, { on := 6, ground := Ground.phase }, { on := 7, ground := Ground.phase }, { on := 8, ground := Ground.phase }, { on := 9, ground := Ground.phase }, { on := 10, ground := Ground.phase }], guard := none }) (rs := []) rfl (by rfl) (fun K hK => ?_) AllReadyT.nil)
            go_simp
            refine hK.out _ _ ?_
            clear hK K
            refine wpAnyT_done (by kernel_rfl) ?_ _
            have HRn := Lib.hid (fun Y : Int => hR2.set (k := k) Y)
            have HQn := Lib.hid (fun Y : Int => (hQ.out.only ho3 hqp).other (p := ⟨b, k, none⟩) hbq (.int .i64 Y))
            have HZn := Lib.hid (fun Y : Int => (hZ.out.only ho3 (by omega)).other (p := ⟨b, k, none⟩) (show b ≠ w.heap.size by omega) (.int .i64 Y))
            have HCn := Lib.hid (fun Y : Int => hc2.other (q := b) (k := k) (by omega) (.int .i64 Y))
            have HOn := Lib.hid (fun Y : Int => (hOn.out.trans ho3).setOwn (by omega) (show w.heap.size ≤ b by omega) k (.int .i64 Y))
            clear c3 f3 hR2 ho3 ho0 Cell hc2 ho2
            go_wp2_with fail
            go_roundw
            case rel => exact ⟨k + 1, by omega, by omega, by go_num, HQn.out _, HZn.out _, HRn.out _, HCn.out _, HOn.out _⟩
            case measure => simp [intOf]; omega

          · have d2 : (x == 2) = false := by simpa using e2
            clear e0 e1 e2
            go_upto_region 8 with fail
            refine wp_region_T_drew (S := (fun w' => w'.cell? ⟨q, 1, none⟩ = some (.slice (some ⟨b, 0, none⟩) N N) ∧ Only p wr w')) 15 (by kernel_rfl) ?_ (fun hHeld => ?_)
            · exact Cell.out _ ho0
            refine wpAnyT_take (i := 0) (oi := { dst := some 28, op := Op.fieldAddr 26 (Operand.tmp 6) 1, type := 0, pos := "l08_game.go:123", after := #[], guard := none }) (v := ?_) rfl (by kernel_rfl) (fun _ _ _ h => h) (Or.inl ⟨by rfl, ?_⟩) (by assumption) ?_
            rotate_left 1
            · intro w hSw; (try dsimp only at hSw); go_simp; try (with_reducible rfl)
            try simp only [Act.put, List.setIfInBounds_toArray, List.set_cons_zero, List.set_cons_succ]
            refine wpAnyT_take (i := 1) (oi := { dst := some 29, op := Op.load 24 (Operand.tmp 28), type := 24, pos := "l08_game.go:123", after := #[{ on := 0, ground := Ground.data }], guard := none }) (v := ?_) rfl (by kernel_rfl) (fun _ _ _ h => h) (Or.inl ⟨by rfl, ?_⟩) (by assumption) ?_
            rotate_left 1
            · intro w hSw; (try dsimp only at hSw); go_simp; try (with_reducible rfl)
            try simp only [Act.put, List.setIfInBounds_toArray, List.set_cons_zero, List.set_cons_succ]
            refine wpAnyT_take (i := 2) (oi := { dst := some 30, op := Op.move (Operand.tmp 8), type := 3, pos := "l08_game.go:123", after := #[], guard := none }) (v := ?_) rfl (by kernel_rfl) (fun _ _ _ h => h) (Or.inl ⟨by rfl, ?_⟩) (by assumption) ?_
            rotate_left 1
            · intro w hSw; (try dsimp only at hSw); go_simp; try (with_reducible rfl)
            try simp only [Act.put, List.setIfInBounds_toArray, List.set_cons_zero, List.set_cons_succ]
            refine wpAnyT_take (i := 3) (oi := { dst := some 31, op := Op.move (Operand.tmp 8), type := 3, pos := "l08_game.go:123", after := #[], guard := none }) (v := ?_) rfl (by kernel_rfl) (fun _ _ _ h => h) (Or.inl ⟨by rfl, ?_⟩) (by assumption) ?_
            rotate_left 1
            · intro w hSw; (try dsimp only at hSw); go_simp; try (with_reducible rfl)
            try simp only [Act.put, List.setIfInBounds_toArray, List.set_cons_zero, List.set_cons_succ]
            refine wpAnyT_take (i := 6) (oi := { dst := some 34, op := Op.move (Operand.tmp 5), type := 3, pos := "l08_game.go:123", after := #[], guard := none }) (v := ?_) rfl (by kernel_rfl) (fun _ _ _ h => h) (Or.inl ⟨by rfl, ?_⟩) (by assumption) ?_
            rotate_left 1
            · intro w hSw; (try dsimp only at hSw); go_simp; try (with_reducible rfl)
            try simp only [Act.put, List.setIfInBounds_toArray, List.set_cons_zero, List.set_cons_succ]
            refine wpAnyT_take (i := 9) (oi := { dst := some 37, op := Op.move (Operand.tmp 0), type := 45, pos := "l08_game.go:123", after := #[], guard := none }) (v := ?_) rfl (by kernel_rfl) (fun _ _ _ h => h) (Or.inl ⟨by rfl, ?_⟩) (by assumption) ?_
            rotate_left 1
            · intro w hSw; (try dsimp only at hSw); go_simp; try (with_reducible rfl)
            try simp only [Act.put, List.setIfInBounds_toArray, List.set_cons_zero, List.set_cons_succ]
            refine wpAnyT_ready (rs := [4]) (by kernel_rfl) (by simp) ?_
            refine (AllReadyT.cons (o := { dst := some 32, op := Op.call { callee := Callee.value (Operand.func 73), args := #[Operand.tmp 31], argTypes := #[3] }, type := 3, pos := "l08_game.go:123", after := #[{ on := 3, ground := Ground.data }], guard := none }) (rs := []) rfl (fun K hK => ?_) AllReadyT.nil)
            go_simp
            (go_at_call 73; refine (spec_SizeOf k (by omega) _).mono ?_; rintro e w9 ⟨rfl, rfl⟩)
            refine hK.out _ _ ?_ (fun hHeld => ?_)
            · exact Cell.out _ ho0
            clear hK K
            try simp only [Act.put, List.setIfInBounds_toArray, List.set_cons_zero, List.set_cons_succ]
            refine wpAnyT_take (i := 5) (oi := { dst := some 33, op := Op.binOp BinOp.mul 3 (Operand.tmp 32) (Operand.const (Value.int IntKind.i64 2)) 3, type := 3, pos := "l08_game.go:123", after := #[{ on := 4, ground := Ground.data }], guard := none }) (v := ?_) rfl (by kernel_rfl) (fun _ _ _ h => h) (Or.inl ⟨by rfl, ?_⟩) (by assumption) ?_
            rotate_left 1
            · intro w hSw; (try dsimp only at hSw); go_simp; try (with_reducible rfl)
            try simp only [Act.put, List.setIfInBounds_toArray, List.set_cons_zero, List.set_cons_succ]
            refine wpAnyT_take (i := 7) (oi := { dst := some 35, op := Op.binOp BinOp.gtr 3 (Operand.tmp 33) (Operand.tmp 34) 3, type := 4, pos := "l08_game.go:123", after := #[{ on := 5, ground := Ground.data }, { on := 6, ground := Ground.data }], guard := none }) (v := ?_) rfl (by kernel_rfl) (fun _ _ _ h => h) (Or.inl ⟨by rfl, ?_⟩) (by assumption) ?_
            rotate_left 1
            · intro w hSw; (try dsimp only at hSw); go_simp; try (with_reducible rfl)
            try simp only [Act.put, List.setIfInBounds_toArray, List.set_cons_zero, List.set_cons_succ]
            refine wpAnyT_ready (rs := [8]) (by kernel_rfl) (by simp) ?_
            refine (AllReadyT.cons (o := { dst := some 36, op := Op.call { callee := Callee.value (Operand.func 75), args := #[Operand.tmp 35], argTypes := #[4] }, type := 3, pos := "l08_game.go:123", after := #[{ on := 7, ground := Ground.data }, { on := 4, ground := Ground.chain }], guard := none }) (rs := []) rfl (fun K hK => ?_) AllReadyT.nil)
            go_simp
            (go_at_call 75; refine (spec_l1Bit _ _).mono ?_; rintro e w9 ⟨⟨xm, rfl, _⟩, rfl⟩)
            refine hK.out _ _ ?_ (fun hHeld => ?_)
            · exact Cell.out _ ho0
            clear hK K
            try simp only [Act.put, List.setIfInBounds_toArray, List.set_cons_zero, List.set_cons_succ]
            refine wpAnyT_ready (rs := [10]) (by kernel_rfl) (by simp) ?_
            refine (AllReadyT.cons (o := { dst := some 38, op := Op.call { callee := Callee.value (Operand.func 63), args := #[Operand.tmp 37, Operand.const (Value.int IntKind.i64 2)], argTypes := #[45, 3] }, type := 3, pos := "l08_game.go:123", after := #[{ on := 9, ground := Ground.data }, { on := 8, ground := Ground.chain }], guard := none }) (rs := []) rfl (fun K hK => ?_) AllReadyT.nil)
            go_simp
            (go_at_call 63; refine (spec_l1Below B p a len cap 2 (by decide) (by decide) wr.drew hB hC.out.drew0 (Hc.out.below (hOn.out.drew.below hB))).mono ?_; rintro e w2 ⟨xb, rfl, _, _, hc2, ho2⟩; have ho3 := ho0.trans ho2)
            refine hK.out _ _ ?_ (fun hHeld => ?_)
            · exact Cell.out _ ho3
            clear hK K
            try simp only [Act.put, List.setIfInBounds_toArray, List.set_cons_zero, List.set_cons_succ]
            refine wpAnyT_take (i := 11) (oi := { dst := some 39, op := Op.binOp BinOp.mul 3 (Operand.tmp 38) (Operand.const (Value.int IntKind.i64 3)) 3, type := 3, pos := "l08_game.go:123", after := #[{ on := 10, ground := Ground.data }], guard := none }) (v := ?_) rfl (by kernel_rfl) (fun _ _ _ h => h) (Or.inl ⟨by rfl, ?_⟩) (by assumption) ?_
            rotate_left 1
            · intro w hSw; (try dsimp only at hSw); go_simp; try (with_reducible rfl)
            try simp only [Act.put, List.setIfInBounds_toArray, List.set_cons_zero, List.set_cons_succ]
            refine wpAnyT_take (i := 12) (oi := { dst := some 40, op := Op.binOp BinOp.add 3 (Operand.const (Value.int IntKind.i64 3)) (Operand.tmp 39) 3, type := 3, pos := "l08_game.go:123", after := #[{ on := 11, ground := Ground.data }], guard := none }) (v := ?_) rfl (by kernel_rfl) (fun _ _ _ h => h) (Or.inl ⟨by rfl, ?_⟩) (by assumption) ?_
            rotate_left 1
            · intro w hSw; (try dsimp only at hSw); go_simp; try (with_reducible rfl)
            try simp only [Act.put, List.setIfInBounds_toArray, List.set_cons_zero, List.set_cons_succ]
            refine wpAnyT_take (i := 13) (oi := { dst := some 41, op := Op.binOp BinOp.mul 3 (Operand.tmp 36) (Operand.tmp 40) 3, type := 3, pos := "l08_game.go:123", after := #[{ on := 8, ground := Ground.data }, { on := 12, ground := Ground.data }], guard := none }) (v := ?_) rfl (by kernel_rfl) (fun _ _ _ h => h) (Or.inl ⟨by rfl, ?_⟩) (by assumption) ?_
            rotate_left 1
            · intro w hSw; (try dsimp only at hSw); go_simp; try (with_reducible rfl)
            try simp only [Act.put, List.setIfInBounds_toArray, List.set_cons_zero, List.set_cons_succ]
            refine wpAnyT_take (i := 14) (oi := { dst := some 42, op := Op.indexAddr 24 (Operand.tmp 29) (Operand.tmp 30), type := 0, pos := "l08_game.go:123", after := #[{ on := 1, ground := Ground.data }, { on := 2, ground := Ground.data }, { on := 0, ground := Ground.phase }, { on := 1, ground := Ground.phase }, { on := 2, ground := Ground.phase }, { on := 3, ground := Ground.phase }, { on := 4, ground := Ground.phase }, { on := 5, ground := Ground.phase }, { on := 6, ground := Ground.phase }, { on := 7, ground := Ground.phase }, { on := 8, ground := Ground.phase }, { on := 9, ground := Ground.phase }, { on := 10, ground := Ground.phase }, { on := 11, ground := Ground.phase }, { on := 12, ground := Ground.phase }, { on := 13, ground := Ground.phase }], guard := none }) (v := ?_) rfl (by kernel_rfl) (fun _ _ _ h => h) (Or.inl ⟨by rfl, ?_⟩) (by assumption) ?_
            rotate_left 1
            · intro w hSw; (try dsimp only at hSw); go_simp; try (with_reducible rfl)
            try simp only [Act.put, List.setIfInBounds_toArray, List.set_cons_zero, List.set_cons_succ]
            have hR2 := hR.out.only ho3 hp
            obtain ⟨⟨xc, c3⟩, f3, hbB, hbl⟩ := hR2.spot hlt
            refine wpAnyT_ready (rs := [15]) (by kernel_rfl) (by simp) ?_
            refine (AllReadyT.last (o := { dst := none, op := Op.store 3 (Operand.tmp 42) (Operand.tmp 41), type := 0, pos := "l08_game.go:123", after := #[{ on := 14, ground := Ground.data }, { on := 13, ground := Ground.data }, { on := 10, ground := Ground.chain }, { on := 0, ground := Ground.phase }, { on := 1, ground := Ground.phase }, { on := 2, ground := Ground.phase }, { on := 3, ground := Ground.phase }, { on := 4, ground := Ground.phase }, { on := 5, ground := Ground.phase }, { on := 6, ground := Ground.phase }, { on := 7, ground := Ground.phase }, { on := 8, ground := Ground.phase }, { on := 9, ground := Ground.phase }, { on := 10, ground := Ground.phase }, { on := 11, ground := Ground.phase }, { on := 12, ground := Ground.phase }, { on := 13, ground := Ground.phase }], guard := none }) (rs := []) rfl (by rfl) (fun K hK => ?_) AllReadyT.nil)
            go_simp
            refine hK.out _ _ ?_
            clear hK K
            refine wpAnyT_done (by kernel_rfl) ?_ _
            have HRn := Lib.hid (fun Y : Int => hR2.set (k := k) Y)
            have HQn := Lib.hid (fun Y : Int => (hQ.out.only ho3 hqp).other (p := ⟨b, k, none⟩) hbq (.int .i64 Y))
            have HZn := Lib.hid (fun Y : Int => (hZ.out.only ho3 (by omega)).other (p := ⟨b, k, none⟩) (show b ≠ w.heap.size by omega) (.int .i64 Y))
            have HCn := Lib.hid (fun Y : Int => hc2.other (q := b) (k := k) (by omega) (.int .i64 Y))
            have HOn := Lib.hid (fun Y : Int => (hOn.out.trans ho3).setOwn (by omega) (show w.heap.size ≤ b by omega) k (.int .i64 Y))
            clear c3 f3 hR2 ho3 ho0 Cell hc2 ho2
            go_wp2_with fail
            go_roundw
            case rel => exact ⟨k + 1, by omega, by omega, by go_num, HQn.out _, HZn.out _, HRn.out _, HCn.out _, HOn.out _⟩
            case measure => simp [intOf]; omega

    · obtain ⟨d0, d1, e0, e1⟩ := two' hZ.out
      have HR := Lib.hid ((hZ.out.s0 (.int .i64 m)).s1 (.slice (some ⟨b, 0, none⟩) N N))
      obtain ⟨xs, hxl, hxr⟩ := hR.out
      have hbl := World.ownsRow.lt hxr b rfl
      have hne2 : (Value.slice (some ⟨b, 0, none⟩) N N).ownBlock ≠ some w.heap.size := own_away hxr hZ.out.ty (by decide)
      have HY := Lib.hid (owns_set (i := 1) (u := .slice (some ⟨b, 0, none⟩) N N) (owns_set (i := 0) (u := .int .i64 m) hxr hne2) hne2)
      have HCe := Lib.hid ((hC.out.other (q := w.heap.size) (k := 0) (by omega) (.int .i64 m)).other (q := w.heap.size) (k := 1) (by omega) (.slice (some ⟨b, 0, none⟩) N N))
      have HOe := Lib.hid ((hOn.out.setOwn (by omega) (Nat.le_refl _) 0 (.int .i64 m)).setOwn (by omega) (Nat.le_refl _) 1 (.slice (some ⟨b, 0, none⟩) N N))
      have HXL := Lib.hid hxl
      clear hxl hxr hne2
      go_wp2_with fail
      refine bodyPost_ret (v := .agg #[.int .i64 m, .slice (some ⟨b, 0, none⟩) N N]) (by
        obtain ⟨z0, z1⟩ := two HR.out
        revert z0 z1
        generalize ((wr.setCell ⟨w.heap.size, 0, none⟩ (.int .i64 m)).setCell ⟨w.heap.size, 1, none⟩ (.slice (some ⟨b, 0, none⟩) N N)) = W4
        intro z0 z1
        simp [results, Try.results62, go_sem, z0, z1]) rfl ⟨⟨m, xs⟩, _, rfl, HY.out, by simp only; omega, by simp only; omega, by simp only [Int.toNat_natCast]; rw [HXL.out, HNN.out], HCe.out, HOe.out⟩
end Go.Proofs.Ytodjapljoimkgaa
