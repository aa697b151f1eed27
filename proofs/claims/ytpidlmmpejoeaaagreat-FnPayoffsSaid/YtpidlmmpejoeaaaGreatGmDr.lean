/- The specification's draws of games: l8Draw. -/
import Derived.Test.YtpidlmmpejoeaaaGreatDrI
import Derived.Test.YtpidlmmpejoeaaaGreatGmC
import Derived.Test.YtpidlmmpejoeaaaGreatCoB
namespace Go.Proofs.YtpidlmmpejoeaaaGreat
open Go.RowKit
open Gm (G)
theorem made_ints (n : Nat) : (madeCells #[Value.int .i64 0] n).toList = (List.replicate n (0 : Int)).map (Value.int .i64) := by
 apply List.ext_getElem
 ·
  simp [madeCells]
 ·
  intro i h1 h2
  simp [madeCells, Nat.mod_one]
def RowI (B : Nat) (w : World) (v : Value) (N : Nat) : Prop := ∃ xs : List Int, xs.length = N ∧ OwnInts B w v xs
theorem RowI.only {B p N : Nat} {w w' : World} {v : Value} (h : RowI B w v N) (ho : Only p w w') (hp : p < B) : RowI B w' v N := by
 obtain ⟨xs, hl, hr⟩ := h
 exact ⟨xs, hl, hr.only ho hp⟩
theorem RowI.set {B b k N c : Nat} {w : World} (h : RowI B w (.slice (some ⟨b, 0, none⟩) N c) N) (y : Int) : RowI B (w.setCell ⟨b, k, none⟩ (.int .i64 y)) (.slice (some ⟨b, 0, none⟩) N c) N := by
 obtain ⟨xs, hl, hr⟩ := h
 subst hl
 refine ⟨xs.set k y, by simp, ?_⟩
 have := own_set hr k y
 simpa using this
theorem RowI.spot {B b k N c : Nat} {w : World} (h : RowI B w (.slice (some ⟨b, 0, none⟩) N c) N) (hk : k < N) : (∃ x, w.cell? ⟨b, k, none⟩ = some (.int .i64 x)) ∧ w.frozen? ⟨b, k, none⟩ = false ∧ B ≤ b ∧ b < w.heap.size := by
 obtain ⟨xs, hl, hr⟩ := h
 subst hl
 have := World.ownsRow.lt hr b rfl
 refine ⟨?_, World.ownsRow.frozenAt hr k, this.1, this.2⟩
 rw [World.ownsRow.cellAt hr k (by omega), List.getElem?_map, List.getElem?_eq_getElem hk]
 exact ⟨_, rfl⟩
def DrewGm (p : Nat) (a : Option Addr) (len cap : Nat) (w : World) (e : Ending) (w' : World) : Prop :=
 ∃ (g : G) (v : Value), e = .returned (.agg #[.int .i64 g.n, v]) ∧ OwnInts w.heap.size w' v g.v ∧ 1 ≤ g.n ∧ g.n ≤ 5 ∧ g.v.length = 2 ^ g.n.toNat ∧ Cur w' p a len cap ∧ Only p w w'
theorem spec_l1Bit (b : Bool) (w : World) : Calls Tryz.prog 83 #[.bool b] w fun e w' => (∃ x : Int, e = .returned (.int .i64 x) ∧ 0 ≤ x ∧ x ≤ 1) ∧ w' = w := by
 cases b
 ·
  go_enter Tryz.func83, Tryz.ntmps83
  go_wp2_with fail
  go_ret
  exact ⟨⟨0, rfl, by omega, by omega⟩, rfl⟩
 ·
  go_enter Tryz.func83, Tryz.ntmps83
  go_wp2_with fail
  go_ret
  exact ⟨⟨1, rfl, by omega, by omega⟩, rfl⟩
theorem spec_l1Max (x y : Int) (w : World) : Calls Tryz.prog 82 #[.int .i64 x, .int .i64 y] w fun e w' => (∃ z : Int, e = .returned (.int .i64 z) ∧ x ≤ z ∧ y ≤ z ∧ (z = x ∨ z = y)) ∧ w' = w := by
 by_cases h : x > y
 ·
  have hb : decide (x > y) = true := decide_eq_true h
  go_enter Tryz.func82, Tryz.ntmps82
  go_wp2_with fail
  go_ret
  exact ⟨⟨x, rfl, by omega, by omega, .inl rfl⟩, rfl⟩
 ·
  have hb : decide (x > y) = false := decide_eq_false h
  go_enter Tryz.func82, Tryz.ntmps82
  go_wp2_with fail
  go_ret
  exact ⟨⟨y, rfl, by omega, by omega, .inr rfl⟩, rfl⟩
theorem Cur.drew0 {w : World} {p : Nat} {a : Option Addr} {len cap : Nat} (h : Cur w p a len cap) : Cur w.drew p a len cap := h
theorem Cur.other {w : World} {p q k : Nat} {a : Option Addr} {len cap : Nat} (h : Cur w p a len cap) (hq : q ≠ p) (u : Value) : Cur (w.setCell ⟨q, k, none⟩ u) p a len cap := by
 obtain ⟨i, x, h1, h2, hb⟩ := h
 exact ⟨i, x, h1, h2, by rw [Below.heap_setCell _ _ _ _ (fun e => hq e.symm)]; exact hb⟩
set_option maxRecDepth 100000 in
set_option maxHeartbeats 4000000 in
theorem spec_l8Draw (B p : Nat) (a : Option Addr) (len cap : Nat) (most : Int) (hm1 : 1 ≤ most) (hm5 : most ≤ 5) (w : World) (hB : B ≤ p) (hcur : Cur w p a len cap) (hcode : CodeAt B w a len) :
  Calls Tryz.prog 62 #[.pointer (some ⟨p, 0, none⟩), .int .i64 most] w (DrewGm p a len cap w) := by
 have hp := hcur.lt
 obtain ⟨i0, hi, hz0, hz1, hz2⟩ := info_parts info_int
 have HI := zH hi
 have HZ0 := zH hz0
 have HZ1 := zH hz1
 have Hz2 := zH hz2
 have Hc := zH hcode
 have HU0 := zH (hcur.alloc (.cells #[.int .i64 0, .slice none 0 0] 26))
 have HN0 := zH (CellsAt.new w #[.int .i64 0, .slice none 0 0] 26)
 have HO0 := zH ((Only.refl p w).alloc (by omega) (.cells #[.int .i64 0, .slice none 0 0] 26))
 clear hi hz0 hz1 hz2 hcur hcode
 go_enter Tryz.func62, Tryz.ntmps62
 go_wp2_with fail
 refine (spec_l1Below B p a len cap most hm1 (by omega) _ hB HU0.out (Hc.out.below (HO0.out.below hB))).mono ?_
 rintro e w1 ⟨x, rfl, hx0, hx1, hc1, ho1⟩
 obtain ⟨m, hm⟩ : ∃ m : Nat, 1 + x = m := ⟨(1 + x).toNat, by omega⟩
 have hmm1 : 1 ≤ m := by omega
 have hmm5 : m ≤ 5 := by omega
 have hx : x = (m : Int) - 1 := by omega
 subst hx
 have HU1 := zH hc1
 have HO1 := zH (HO0.out.trans ho1)
 have HN1 := zH (HN0.out.only ho1 (by omega))
 have Hadd : Hid ((1 : Int) + ((m : Int) - 1) = m) := by show _ = _; omega
 have hsz1 : w.heap.size + 1 ≤ w1.heap.size := by have := ho1.low.size; rw [size1] at this; omega
 clear hc1 ho1 hm hx0 hx1 HU0 HO0 HN0
 go_wp2_with fail
 rw [Hadd.out]
 refine (spec_CountCoalitions m hmm5 w1).mono ?_
 rintro e w9 ⟨rfl, rfl⟩
 have hp2 : 2 ≤ 2 ^ m := by
  have h9 : 2 ^ 1 ≤ 2 ^ m := Nat.pow_le_pow_right (by omega) hmm1
  omega
 have hp32 : 2 ^ m ≤ 32 := Nat.pow_le_pow_right (by omega) hmm5
 obtain ⟨N, hN⟩ : ∃ N, 2 ^ m = N := ⟨_, rfl⟩
 rw [hN] at hp2 hp32 ⊢
 have HNN := zH hN
 have Hby : Hid (i0.bytes * N ≤ 281474976710656) := by show _ ≤ _; rw [Hz2.out]; omega
 clear hN Hadd
 go_wp2_with (refine wpList_make_full _ rfl _ _ 24 rfl w.heap.size 3 i0 (.int .i64 0) 1 Tryz.underlying24 HI.out HZ0.out HZ1.out _ _ _ _ N rfl rfl rfl rfl Hby.out ?c1 (by omega) ?_)
 case c1 => unfold maxLen; omega
 intro w2 hown hgrow
 rw [made_ints] at hown
 have hrow : RowI w.heap.size w2 (.slice (some ⟨w1.heap.size, 0, none⟩) N N) N := ⟨List.replicate N 0, by simp, by unfold OwnInts; rw [List.length_replicate]; exact hown⟩
 have hO2 : Only p w1 w2 := (Only.refl p w1).grown (by have := HO1.out.low.size; omega) hgrow (fun g hg => by cases hg)
 have hbw : w1.heap.size < w2.heap.size := (hown.lt _ rfl).2
 have HU2 := zH (HU1.out.grown hgrow (by simp))
 have HO2 := zH (HO1.out.trans hO2)
 have HN2 := zH (HN1.out.only hO2 (by omega))
 have HR2 := zH hrow
 clear hown hgrow hrow hO2 HU1 HO1 HN1
 generalize w1.heap.size = b at *
 obtain ⟨q, hq⟩ : ∃ q, w2.heap.size = q := ⟨_, rfl⟩
 have HQ3 := zH (CellsAt.new w2 #[.int .i64 m, .slice (some ⟨b, 0, none⟩) N N] 26)
 have HU3 := zH (HU2.out.alloc (.cells #[.int .i64 m, .slice (some ⟨b, 0, none⟩) N N] 26))
 have HO3 := zH (HO2.out.alloc (by omega) (.cells #[.int .i64 m, .slice (some ⟨b, 0, none⟩) N N] 26))
 have HN3 := zH (HN2.out.more (.cells #[.int .i64 m, .slice (some ⟨b, 0, none⟩) N N] 26))
 have HR3 : Hid (RowI w.heap.size (w2.alloc (.cells #[.int .i64 m, .slice (some ⟨b, 0, none⟩) N N] 26)) (.slice (some ⟨b, 0, none⟩) N N) N) := by
  obtain ⟨xs, h1, h2⟩ := HR2.out
  exact ⟨xs, h1, h2.alloc _⟩
 clear HU2 HO2 HN2 HR2
 go_wp2_with fail
 refine (spec_l1Below B p a len cap 4 (by decide) (by decide) _ hB HU3.out (Hc.out.below (HO3.out.below hB))).mono ?_
 rintro e w4 ⟨x, rfl, hx0, hx1, hc1, ho1⟩
 have HU4 := zH hc1
 have HO4 := zH (HO3.out.trans ho1)
 have hqp : q ≠ p := by have := HO3.out.low.size; omega
 have HQ4 : Hid (CellsAt w4 q #[.int .i64 m, .slice (some ⟨b, 0, none⟩) N N] 26) := by rw [← hq]; exact HQ3.out.only ho1 (by omega)
 have HN4 := zH (HN3.out.only ho1 (by omega))
 have HR4 := zH (HR3.out.only ho1 hp)
 have hbq : b ≠ q := by omega
 clear hc1 ho1 HU3 HO3 HQ3 HN3 HR3 hq hbw
 go_wp2_with fail
 go_loopw [8] (fun i wr => ∃ k : Nat, 1 ≤ k ∧ k ≤ N ∧ i = .int .i64 k ∧ Hid (CellsAt wr q #[.int .i64 m, .slice (some ⟨b, 0, none⟩) N N] 26) ∧ Hid (CellsAt wr w.heap.size #[.int .i64 0, .slice none 0 0] 26) ∧ Hid (RowI w.heap.size wr (.slice (some ⟨b, 0, none⟩) N N) N) ∧ Hid (Cur wr p a len cap) ∧ Hid (Only p w wr)) (fun i _ => N - (intOf i).toNat)
 case atStart => exact ⟨1, by omega, by omega, rfl, HQ4, HN4, HR4, HU4, HO4⟩
 case round =>
  obtain ⟨k, hk1, hk, rfl, hQ, hZ, hR, hC, hOn⟩ := hrel
  obtain ⟨y0, y1⟩ := two hQ.out
  by_cases hlt : k < N
  ·
   have Cell := zH (fun w' (h : Only p wr w') => (show w'.cell? ⟨q, 1, none⟩ = some (.slice (some ⟨b, 0, none⟩) N N) ∧ Only p wr w' from ⟨h.cell (a := ⟨q, 1, none⟩) hqp y1, h⟩))
   have ho0 : Only p wr wr.drew := (Only.refl p wr).drew
   have hwz := hOn.out.low.size
   by_cases e0 : x = 0
   ·
    have d0 : (x == 0) = true := by rw [e0]; rfl
    clear e0
    go_upto_region 10 with fail
    refine wp_region_T_drew (S := (fun w' => w'.cell? ⟨q, 1, none⟩ = some (.slice (some ⟨b, 0, none⟩) N N) ∧ Only p wr w')) 12 (by kernel_rfl) ?_ (fun hHeld => ?_)
    ·
     exact Cell.out _ ho0
    refine tk2 0 ⟨some 45, .fieldAddr 26 (.tmp 6) 1, 0, "l08_game.go:117", #[], none⟩ ?_
    refine tk2 1 ⟨some 46, .load 24 (.tmp 45), 24, "l08_game.go:117", #[⟨0, .data⟩], none⟩ ?_
    refine tk2 2 ⟨some 47, .move (.tmp 8), 3, "l08_game.go:117", #[], none⟩ ?_
    refine tk2 3 ⟨some 48, .move (.tmp 8), 3, "l08_game.go:117", #[], none⟩ ?_
    refine tk2 5 ⟨some 50, .move (.tmp 8), 3, "l08_game.go:117", #[], none⟩ ?_
    refine tk2 8 ⟨some 53, .move (.tmp 0), 63, "l08_game.go:117", #[], none⟩ ?_
    try simp only [Act.put, zA, zB, zC]
    refine rd2 4 ⟨some 49, .call { callee := .value (.func 81), args := #[.tmp 48], argTypes := #[3] }, 3, "l08_game.go:117", #[⟨3, .data⟩], none⟩ fun K hK => ?_
    go_simp
    (go_at_call 81; refine (spec_SizeOf k (by omega) _).mono ?_; rintro e w9 ⟨rfl, rfl⟩)
    refine hK.out _ _ ?_ (fun hHeld => ?_)
    ·
     exact Cell.out _ ho0
    clear hK K
    try simp only [Act.put, zA, zB, zC]
    refine rd2 6 ⟨some 51, .call { callee := .value (.func 81), args := #[.tmp 50], argTypes := #[3] }, 3, "l08_game.go:117", #[⟨5, .data⟩, ⟨4, .chain⟩], none⟩ fun K hK => ?_
    go_simp
    (go_at_call 81; refine (spec_SizeOf k (by omega) _).mono ?_; rintro e w9 ⟨rfl, rfl⟩)
    refine hK.out _ _ ?_ (fun hHeld => ?_)
    ·
     exact Cell.out _ ho0
    clear hK K
    refine tk2 7 ⟨some 52, .binOp .mul 3 (.tmp 49) (.tmp 51) 3, 3, "l08_game.go:117", #[⟨4, .data⟩, ⟨6, .data⟩], none⟩ ?_
    try simp only [Act.put, zA, zB, zC]
    refine rd2 9 ⟨some 54, .call { callee := .value (.func 51), args := #[.tmp 53, .const (Value.int IntKind.i64 2)], argTypes := #[63, 3] }, 3, "l08_game.go:117", #[⟨8, .data⟩, ⟨6, .chain⟩], none⟩ fun K hK => ?_
    go_simp
    (go_at_call 51; refine (spec_l1Below B p a len cap 2 (by decide) (by decide) wr.drew hB hC.out.drew0 (Hc.out.below (hOn.out.drew.below hB))).mono ?_; rintro e w2 ⟨xb, rfl, _, _, hc2, ho2⟩; have ho3 := ho0.trans ho2)
    refine hK.out _ _ ?_ (fun hHeld => ?_)
    ·
     exact Cell.out _ ho3
    clear hK K
    refine tk2 10 ⟨some 55, .binOp .add 3 (.tmp 52) (.tmp 54) 3, 3, "l08_game.go:117", #[⟨7, .data⟩, ⟨9, .data⟩], none⟩ ?_
    refine tk2 11 ⟨some 56, .indexAddr 24 (.tmp 46) (.tmp 47), 0, "l08_game.go:117", #[⟨1, .data⟩, ⟨2, .data⟩, ⟨0, .phase⟩, ⟨1, .phase⟩, ⟨2, .phase⟩, ⟨3, .phase⟩, ⟨4, .phase⟩, ⟨5, .phase⟩, ⟨6, .phase⟩, ⟨7, .phase⟩, ⟨8, .phase⟩, ⟨9, .phase⟩, ⟨10, .phase⟩], none⟩ ?_
    try simp only [Act.put, zA, zB, zC]
    have hR2 := hR.out.only ho3 hp
    obtain ⟨⟨xc, c3⟩, f3, hbB, hbl⟩ := hR2.spot hlt
    refine rd3 12 ⟨none, .store 3 (.tmp 56) (.tmp 55), 0, "l08_game.go:117", #[⟨11, .data⟩, ⟨10, .data⟩, ⟨9, .chain⟩, ⟨0, .phase⟩, ⟨1, .phase⟩, ⟨2, .phase⟩, ⟨3, .phase⟩, ⟨4, .phase⟩, ⟨5, .phase⟩, ⟨6, .phase⟩, ⟨7, .phase⟩, ⟨8, .phase⟩, ⟨9, .phase⟩, ⟨10, .phase⟩], none⟩ fun K hK => ?_
    go_simp
    refine hK.out _ _ ?_
    clear hK K
    refine wpAnyT_done (by kernel_rfl) ?_ _
    have HRn := zH (fun Y : Int => hR2.set (k := k) Y)
    have HQn := zH (fun Y : Int => (hQ.out.only ho3 hqp).other (p := ⟨b, k, none⟩) hbq (.int .i64 Y))
    have HZn := zH (fun Y : Int => (hZ.out.only ho3 (by omega)).other (p := ⟨b, k, none⟩) (show b ≠ w.heap.size by omega) (.int .i64 Y))
    have HCn := zH (fun Y : Int => hc2.other (q := b) (k := k) (by omega) (.int .i64 Y))
    have HOn := zH (fun Y : Int => (hOn.out.trans ho3).setOwn (by omega) (show w.heap.size ≤ b by omega) k (.int .i64 Y))
    clear c3 f3 hR2 ho3 ho0 Cell hc2 ho2
    go_wp2_with fail
    go_roundw
    case rel => exact ⟨k + 1, by omega, by omega, by go_num, HQn.out _, HZn.out _, HRn.out _, HCn.out _, HOn.out _⟩
    case measure => simp [intOf]; omega

   ·
    have d0 : (x == 0) = false := by simpa using e0
    by_cases e1 : x = 1
    ·
     have d1 : (x == 1) = true := by rw [e1]; rfl
     clear e0 e1
     go_upto_region 12 with fail
     refine wp_region_T_drew (S := (fun w' => w'.cell? ⟨q, 1, none⟩ = some (.slice (some ⟨b, 0, none⟩) N N) ∧ Only p wr w')) 7 (by kernel_rfl) ?_ (fun hHeld => ?_)
     ·
      exact Cell.out _ ho0
     refine tk2 0 ⟨some 59, .fieldAddr 26 (.tmp 6) 1, 0, "l08_game.go:119", #[], none⟩ ?_
     refine tk2 1 ⟨some 60, .load 24 (.tmp 59), 24, "l08_game.go:119", #[⟨0, .data⟩], none⟩ ?_
     refine tk2 2 ⟨some 61, .move (.tmp 8), 3, "l08_game.go:119", #[], none⟩ ?_
     refine tk2 3 ⟨some 62, .move (.tmp 0), 63, "l08_game.go:119", #[], none⟩ ?_
     try simp only [Act.put, zA, zB, zC]
     refine rd2 4 ⟨some 63, .buildSlice 24 8 #[(0, .const (Value.int IntKind.i64 0)), (1, .const (Value.int IntKind.i64 1)), (2, .const (Value.int IntKind.i64 2)), (3, .const (Value.int IntKind.i64 3)), (4, .const (Value.int IntKind.i64 5)), (5, .const (Value.int IntKind.i64 8)), (6, .const (Value.int IntKind.i64 (-2))), (7, .const (Value.int IntKind.i64 4))], 24, "l08_game.go:119", #[], none⟩ fun K hK => ?_
     go_simp
     refine hK.out _ _ ?_ (fun hHeld => ?_)
     ·
      exact Cell.out _ (ho0.alloc (by omega) _)
     clear hK K
     try simp only [Act.put, zA, zB, zC]
     refine rd2 5 ⟨some 64, .call { callee := .value (.func 74), args := #[.tmp 62, .tmp 63], argTypes := #[63, 24] }, 3, "l08_game.go:119", #[⟨3, .data⟩, ⟨4, .data⟩], none⟩ fun K hK => ?_
     go_simp
     (go_at_call 74; refine (pick_in B p a len cap 8 [0, 1, 2, 3, 5, 8, (-2), 4] #[.int .i64 0, .int .i64 1, .int .i64 2, .int .i64 3, .int .i64 5, .int .i64 8, .int .i64 (-2), .int .i64 4] rfl 8 rfl (by decide) (by decide) wr.drew hB hC.out.drew0 (Hc.out.below (hOn.out.drew.below hB)) _ rfl).mono ?_; rintro e w2 ⟨xb, rfl, _, hc2, ho2⟩; have ho3 := ho0.trans ho2)
     refine hK.out _ _ ?_ (fun hHeld => ?_)
     ·
      exact Cell.out _ ho3
     clear hK K
     refine tk2 6 ⟨some 65, .indexAddr 24 (.tmp 60) (.tmp 61), 0, "l08_game.go:119", #[⟨1, .data⟩, ⟨2, .data⟩, ⟨0, .phase⟩, ⟨1, .phase⟩, ⟨2, .phase⟩, ⟨3, .phase⟩, ⟨4, .phase⟩, ⟨5, .phase⟩], none⟩ ?_
     try simp only [Act.put, zA, zB, zC]
     have hR2 := hR.out.only ho3 hp
     obtain ⟨⟨xc, c3⟩, f3, hbB, hbl⟩ := hR2.spot hlt
     refine rd3 7 ⟨none, .store 3 (.tmp 65) (.tmp 64), 0, "l08_game.go:119", #[⟨6, .data⟩, ⟨5, .data⟩, ⟨5, .chain⟩, ⟨0, .phase⟩, ⟨1, .phase⟩, ⟨2, .phase⟩, ⟨3, .phase⟩, ⟨4, .phase⟩, ⟨5, .phase⟩], none⟩ fun K hK => ?_
     go_simp
     refine hK.out _ _ ?_
     clear hK K
     refine wpAnyT_done (by kernel_rfl) ?_ _
     have HRn := zH (fun Y : Int => hR2.set (k := k) Y)
     have HQn := zH (fun Y : Int => (hQ.out.only ho3 hqp).other (p := ⟨b, k, none⟩) hbq (.int .i64 Y))
     have HZn := zH (fun Y : Int => (hZ.out.only ho3 (by omega)).other (p := ⟨b, k, none⟩) (show b ≠ w.heap.size by omega) (.int .i64 Y))
     have HCn := zH (fun Y : Int => hc2.other (q := b) (k := k) (by omega) (.int .i64 Y))
     have HOn := zH (fun Y : Int => (hOn.out.trans ho3).setOwn (by omega) (show w.heap.size ≤ b by omega) k (.int .i64 Y))
     clear c3 f3 hR2 ho3 ho0 Cell hc2 ho2
     go_wp2_with fail
     go_roundw
     case rel => exact ⟨k + 1, by omega, by omega, by go_num, HQn.out _, HZn.out _, HRn.out _, HCn.out _, HOn.out _⟩
     case measure => simp [intOf]; omega

    ·
     have d1 : (x == 1) = false := by simpa using e1
     by_cases e2 : x = 2
     ·
      have d2 : (x == 2) = true := by rw [e2]; rfl
      clear e0 e1 e2
      go_upto_region 14 with fail
      refine wp_region_T_drew (S := (fun w' => w'.cell? ⟨q, 1, none⟩ = some (.slice (some ⟨b, 0, none⟩) N N) ∧ Only p wr w')) 12 (by kernel_rfl) ?_ (fun hHeld => ?_)
      ·
       exact Cell.out _ ho0
      refine tk2 0 ⟨some 68, .fieldAddr 26 (.tmp 6) 1, 0, "l08_game.go:121", #[], none⟩ ?_
      refine tk2 1 ⟨some 69, .load 24 (.tmp 68), 24, "l08_game.go:121", #[⟨0, .data⟩], none⟩ ?_
      refine tk2 2 ⟨some 70, .move (.tmp 8), 3, "l08_game.go:121", #[], none⟩ ?_
      refine tk2 3 ⟨some 71, .move (.tmp 8), 3, "l08_game.go:121", #[], none⟩ ?_
      refine tk2 7 ⟨some 75, .move (.tmp 0), 63, "l08_game.go:121", #[], none⟩ ?_
      try simp only [Act.put, zA, zB, zC]
      refine rd2 4 ⟨some 72, .call { callee := .value (.func 81), args := #[.tmp 71], argTypes := #[3] }, 3, "l08_game.go:121", #[⟨3, .data⟩], none⟩ fun K hK => ?_
      go_simp
      (go_at_call 81; refine (spec_SizeOf k (by omega) _).mono ?_; rintro e w9 ⟨rfl, rfl⟩)
      refine hK.out _ _ ?_ (fun hHeld => ?_)
      ·
       exact Cell.out _ ho0
      clear hK K
      refine tk2 5 ⟨some 73, .binOp .mul 3 (.const (Value.int IntKind.i64 3)) (.tmp 72) 3, 3, "l08_game.go:121", #[⟨4, .data⟩], none⟩ ?_
      refine tk2 6 ⟨some 74, .binOp .sub 3 (.tmp 73) (.const (Value.int IntKind.i64 2)) 3, 3, "l08_game.go:121", #[⟨5, .data⟩], none⟩ ?_
      try simp only [Act.put, zA, zB, zC]
      refine rd2 8 ⟨some 76, .call { callee := .value (.func 51), args := #[.tmp 75, .const (Value.int IntKind.i64 2)], argTypes := #[63, 3] }, 3, "l08_game.go:121", #[⟨7, .data⟩, ⟨4, .chain⟩], none⟩ fun K hK => ?_
      go_simp
      (go_at_call 51; refine (spec_l1Below B p a len cap 2 (by decide) (by decide) wr.drew hB hC.out.drew0 (Hc.out.below (hOn.out.drew.below hB))).mono ?_; rintro e w2 ⟨xb, rfl, _, _, hc2, ho2⟩; have ho3 := ho0.trans ho2)
      refine hK.out _ _ ?_ (fun hHeld => ?_)
      ·
       exact Cell.out _ ho3
      clear hK K
      refine tk2 9 ⟨some 77, .binOp .sub 3 (.tmp 74) (.tmp 76) 3, 3, "l08_game.go:121", #[⟨6, .data⟩, ⟨8, .data⟩], none⟩ ?_
      try simp only [Act.put, zA, zB, zC]
      refine rd2 10 ⟨some 78, .call { callee := .value (.func 82), args := #[.const (Value.int IntKind.i64 0), .tmp 77], argTypes := #[3, 3] }, 3, "l08_game.go:121", #[⟨9, .data⟩, ⟨8, .chain⟩], none⟩ fun K hK => ?_
      go_simp
      (go_at_call 82; refine (spec_l1Max _ _ _).mono ?_; rintro e w9 ⟨⟨xm, rfl, _⟩, rfl⟩)
      refine hK.out _ _ ?_ (fun hHeld => ?_)
      ·
       exact Cell.out _ ho3
      clear hK K
      refine tk2 11 ⟨some 79, .indexAddr 24 (.tmp 69) (.tmp 70), 0, "l08_game.go:121", #[⟨1, .data⟩, ⟨2, .data⟩, ⟨0, .phase⟩, ⟨1, .phase⟩, ⟨2, .phase⟩, ⟨3, .phase⟩, ⟨4, .phase⟩, ⟨5, .phase⟩, ⟨6, .phase⟩, ⟨7, .phase⟩, ⟨8, .phase⟩, ⟨9, .phase⟩, ⟨10, .phase⟩], none⟩ ?_
      try simp only [Act.put, zA, zB, zC]
      have hR2 := hR.out.only ho3 hp
      obtain ⟨⟨xc, c3⟩, f3, hbB, hbl⟩ := hR2.spot hlt
      refine rd3 12 ⟨none, .store 3 (.tmp 79) (.tmp 78), 0, "l08_game.go:121", #[⟨11, .data⟩, ⟨10, .data⟩, ⟨10, .chain⟩, ⟨0, .phase⟩, ⟨1, .phase⟩, ⟨2, .phase⟩, ⟨3, .phase⟩, ⟨4, .phase⟩, ⟨5, .phase⟩, ⟨6, .phase⟩, ⟨7, .phase⟩, ⟨8, .phase⟩, ⟨9, .phase⟩, ⟨10, .phase⟩], none⟩ fun K hK => ?_
      go_simp
      refine hK.out _ _ ?_
      clear hK K
      refine wpAnyT_done (by kernel_rfl) ?_ _
      have HRn := zH (fun Y : Int => hR2.set (k := k) Y)
      have HQn := zH (fun Y : Int => (hQ.out.only ho3 hqp).other (p := ⟨b, k, none⟩) hbq (.int .i64 Y))
      have HZn := zH (fun Y : Int => (hZ.out.only ho3 (by omega)).other (p := ⟨b, k, none⟩) (show b ≠ w.heap.size by omega) (.int .i64 Y))
      have HCn := zH (fun Y : Int => hc2.other (q := b) (k := k) (by omega) (.int .i64 Y))
      have HOn := zH (fun Y : Int => (hOn.out.trans ho3).setOwn (by omega) (show w.heap.size ≤ b by omega) k (.int .i64 Y))
      clear c3 f3 hR2 ho3 ho0 Cell hc2 ho2
      go_wp2_with fail
      go_roundw
      case rel => exact ⟨k + 1, by omega, by omega, by go_num, HQn.out _, HZn.out _, HRn.out _, HCn.out _, HOn.out _⟩
      case measure => simp [intOf]; omega

     ·
      have d2 : (x == 2) = false := by simpa using e2
      clear e0 e1 e2
      go_upto_region 8 with fail
      refine wp_region_T_drew (S := (fun w' => w'.cell? ⟨q, 1, none⟩ = some (.slice (some ⟨b, 0, none⟩) N N) ∧ Only p wr w')) 15 (by kernel_rfl) ?_ (fun hHeld => ?_)
      ·
       exact Cell.out _ ho0
      refine tk2 0 ⟨some 28, .fieldAddr 26 (.tmp 6) 1, 0, "l08_game.go:123", #[], none⟩ ?_
      refine tk2 1 ⟨some 29, .load 24 (.tmp 28), 24, "l08_game.go:123", #[⟨0, .data⟩], none⟩ ?_
      refine tk2 2 ⟨some 30, .move (.tmp 8), 3, "l08_game.go:123", #[], none⟩ ?_
      refine tk2 3 ⟨some 31, .move (.tmp 8), 3, "l08_game.go:123", #[], none⟩ ?_
      refine tk2 6 ⟨some 34, .move (.tmp 5), 3, "l08_game.go:123", #[], none⟩ ?_
      refine tk2 9 ⟨some 37, .move (.tmp 0), 63, "l08_game.go:123", #[], none⟩ ?_
      try simp only [Act.put, zA, zB, zC]
      refine rd2 4 ⟨some 32, .call { callee := .value (.func 81), args := #[.tmp 31], argTypes := #[3] }, 3, "l08_game.go:123", #[⟨3, .data⟩], none⟩ fun K hK => ?_
      go_simp
      (go_at_call 81; refine (spec_SizeOf k (by omega) _).mono ?_; rintro e w9 ⟨rfl, rfl⟩)
      refine hK.out _ _ ?_ (fun hHeld => ?_)
      ·
       exact Cell.out _ ho0
      clear hK K
      refine tk2 5 ⟨some 33, .binOp .mul 3 (.tmp 32) (.const (Value.int IntKind.i64 2)) 3, 3, "l08_game.go:123", #[⟨4, .data⟩], none⟩ ?_
      refine tk2 7 ⟨some 35, .binOp .gtr 3 (.tmp 33) (.tmp 34) 3, 4, "l08_game.go:123", #[⟨5, .data⟩, ⟨6, .data⟩], none⟩ ?_
      try simp only [Act.put, zA, zB, zC]
      refine rd2 8 ⟨some 36, .call { callee := .value (.func 83), args := #[.tmp 35], argTypes := #[4] }, 3, "l08_game.go:123", #[⟨7, .data⟩, ⟨4, .chain⟩], none⟩ fun K hK => ?_
      go_simp
      (go_at_call 83; refine (spec_l1Bit _ _).mono ?_; rintro e w9 ⟨⟨xm, rfl, _⟩, rfl⟩)
      refine hK.out _ _ ?_ (fun hHeld => ?_)
      ·
       exact Cell.out _ ho0
      clear hK K
      try simp only [Act.put, zA, zB, zC]
      refine rd2 10 ⟨some 38, .call { callee := .value (.func 51), args := #[.tmp 37, .const (Value.int IntKind.i64 2)], argTypes := #[63, 3] }, 3, "l08_game.go:123", #[⟨9, .data⟩, ⟨8, .chain⟩], none⟩ fun K hK => ?_
      go_simp
      (go_at_call 51; refine (spec_l1Below B p a len cap 2 (by decide) (by decide) wr.drew hB hC.out.drew0 (Hc.out.below (hOn.out.drew.below hB))).mono ?_; rintro e w2 ⟨xb, rfl, _, _, hc2, ho2⟩; have ho3 := ho0.trans ho2)
      refine hK.out _ _ ?_ (fun hHeld => ?_)
      ·
       exact Cell.out _ ho3
      clear hK K
      refine tk2 11 ⟨some 39, .binOp .mul 3 (.tmp 38) (.const (Value.int IntKind.i64 3)) 3, 3, "l08_game.go:123", #[⟨10, .data⟩], none⟩ ?_
      refine tk2 12 ⟨some 40, .binOp .add 3 (.const (Value.int IntKind.i64 3)) (.tmp 39) 3, 3, "l08_game.go:123", #[⟨11, .data⟩], none⟩ ?_
      refine tk2 13 ⟨some 41, .binOp .mul 3 (.tmp 36) (.tmp 40) 3, 3, "l08_game.go:123", #[⟨8, .data⟩, ⟨12, .data⟩], none⟩ ?_
      refine tk2 14 ⟨some 42, .indexAddr 24 (.tmp 29) (.tmp 30), 0, "l08_game.go:123", #[⟨1, .data⟩, ⟨2, .data⟩, ⟨0, .phase⟩, ⟨1, .phase⟩, ⟨2, .phase⟩, ⟨3, .phase⟩, ⟨4, .phase⟩, ⟨5, .phase⟩, ⟨6, .phase⟩, ⟨7, .phase⟩, ⟨8, .phase⟩, ⟨9, .phase⟩, ⟨10, .phase⟩, ⟨11, .phase⟩, ⟨12, .phase⟩, ⟨13, .phase⟩], none⟩ ?_
      try simp only [Act.put, zA, zB, zC]
      have hR2 := hR.out.only ho3 hp
      obtain ⟨⟨xc, c3⟩, f3, hbB, hbl⟩ := hR2.spot hlt
      refine rd3 15 ⟨none, .store 3 (.tmp 42) (.tmp 41), 0, "l08_game.go:123", #[⟨14, .data⟩, ⟨13, .data⟩, ⟨10, .chain⟩, ⟨0, .phase⟩, ⟨1, .phase⟩, ⟨2, .phase⟩, ⟨3, .phase⟩, ⟨4, .phase⟩, ⟨5, .phase⟩, ⟨6, .phase⟩, ⟨7, .phase⟩, ⟨8, .phase⟩, ⟨9, .phase⟩, ⟨10, .phase⟩, ⟨11, .phase⟩, ⟨12, .phase⟩, ⟨13, .phase⟩], none⟩ fun K hK => ?_
      go_simp
      refine hK.out _ _ ?_
      clear hK K
      refine wpAnyT_done (by kernel_rfl) ?_ _
      have HRn := zH (fun Y : Int => hR2.set (k := k) Y)
      have HQn := zH (fun Y : Int => (hQ.out.only ho3 hqp).other (p := ⟨b, k, none⟩) hbq (.int .i64 Y))
      have HZn := zH (fun Y : Int => (hZ.out.only ho3 (by omega)).other (p := ⟨b, k, none⟩) (show b ≠ w.heap.size by omega) (.int .i64 Y))
      have HCn := zH (fun Y : Int => hc2.other (q := b) (k := k) (by omega) (.int .i64 Y))
      have HOn := zH (fun Y : Int => (hOn.out.trans ho3).setOwn (by omega) (show w.heap.size ≤ b by omega) k (.int .i64 Y))
      clear c3 f3 hR2 ho3 ho0 Cell hc2 ho2
      go_wp2_with fail
      go_roundw
      case rel => exact ⟨k + 1, by omega, by omega, by go_num, HQn.out _, HZn.out _, HRn.out _, HCn.out _, HOn.out _⟩
      case measure => simp [intOf]; omega

  ·
   obtain ⟨d0, d1, e0, e1⟩ := two' hZ.out
   have HR := zH ((hZ.out.s0 (.int .i64 m)).s1 (.slice (some ⟨b, 0, none⟩) N N))
   obtain ⟨xs, hxl, hxr⟩ := hR.out
   have hbl := World.ownsRow.lt hxr b rfl
   have hne2 : (Value.slice (some ⟨b, 0, none⟩) N N).ownBlock ≠ some w.heap.size := own_away hxr hZ.out.ty (by decide)
   have HY := zH (owns_set (i := 1) (u := .slice (some ⟨b, 0, none⟩) N N) (owns_set (i := 0) (u := .int .i64 m) hxr hne2) hne2)
   have HCe := zH ((hC.out.other (q := w.heap.size) (k := 0) (by omega) (.int .i64 m)).other (q := w.heap.size) (k := 1) (by omega) (.slice (some ⟨b, 0, none⟩) N N))
   have HOe := zH ((hOn.out.setOwn (by omega) (Nat.le_refl _) 0 (.int .i64 m)).setOwn (by omega) (Nat.le_refl _) 1 (.slice (some ⟨b, 0, none⟩) N N))
   have HXL := zH hxl
   clear hxl hxr hne2
   go_wp2_with fail
   refine bodyPost_ret (v := .agg #[.int .i64 m, .slice (some ⟨b, 0, none⟩) N N]) (by
    obtain ⟨z0, z1⟩ := two HR.out
    revert z0 z1
    generalize ((wr.setCell ⟨w.heap.size, 0, none⟩ (.int .i64 m)).setCell ⟨w.heap.size, 1, none⟩ (.slice (some ⟨b, 0, none⟩) N N)) = W4
    intro z0 z1
    simp [results, Tryz.results62, go_sem, z0, z1]) rfl ⟨⟨m, xs⟩, _, rfl, HY.out, by simp only; omega, by simp only; omega, by simp only [Int.toNat_natCast]; rw [HXL.out, HNN.out], HCe.out, HOe.out⟩
end Go.Proofs.YtpidlmmpejoeaaaGreat
