/- The walk of FnExactAddScaled: for every input the law returns true. -/
import Derived.Test.YtlaohlcghdbjhaaVeL1
import Derived.Test.YtlaohlcghdbjhaaVeS
import Derived.Test.YtlaohlcghdbjhaaVeS
import Derived.Test.YtlaohlcghdbjhaaVeS
import Derived.Test.YtlaohlcghdbjhaaVeS
import Derived.Test.YtlaohlcghdbjhaaVeS
import Derived.Test.YtlaohlcghdbjhaaVeS
import Derived.Test.YtlaohlcghdbjhaaVeAS
import Derived.Test.YtlaohlcghdbjhaaVeC2
namespace Go.Proofs.Ytlaohlcghdbjhaa
open Go.RowKit
open Ve (R)
/-- The box of one fraction, read later. -/
def OneB (p : Nat) (u : R) (B : World) : Prop := B.cell? ⟨p, 0, none⟩ = some (.int .i64 u.1) ∧ B.cell? ⟨p, 1, none⟩ = some (.int .i64 u.2) ∧ p < B.heap.size
theorem OneB.three {p : Nat} {u : R} {B wx : World} (H : Hid (OneB p u B)) (h : Since B wx) :
    wx.cell? ⟨p, 0, none⟩ = some (.int .i64 u.1) ∧ wx.cell? ⟨p, 1, none⟩ = some (.int .i64 u.2) ∧ Since B wx :=
  ⟨h.cell H.out.2.2 H.out.1, h.cell H.out.2.2 H.out.2.1, h⟩
theorem OneB.since {p : Nat} {u : R} {B wx : World} (H : OneB p u B) (h : Since B wx) : OneB p u wx := ⟨h.cell H.2.2 H.1, h.cell H.2.2 H.2.1, Nat.lt_of_lt_of_le H.2.2 h.low.size⟩
set_option maxRecDepth 100000 in
set_option maxHeartbeats 8000000 in
theorem fnExactAddScaled.small (a : Option Addr) (cap : Nat) (xs : List R) (u : R) (b : Option Addr) (cbp : Nat) (ys : List R) (w wB : World) (hbig : ys.length + xs.length ≤ 1048576) (hw : w.alloc (.cells #[.int .i64 u.1, .int .i64 u.2] 35) = wB) (hL : AllS wB [(b, ys, 0, w.heap.size), (a, xs, 0, w.heap.size)]) :
    Calls Try.prog 5 #[.slice a xs.length cap, .agg #[.int .i64 u.1, .int .i64 u.2], .slice b ys.length cbp] w fun e w' => e = .returned (.bool true) ∧ Below w.heap.size w w' := by
  have HL0 := Lib.hid hL
  have HbB : Hid (Below w.heap.size w wB) := by rw [← hw]; show Below _ _ _; (repeat' (first | exact Below.refl _ _ | exact Nat.le_refl _ | refine Below.setCell ?_ ?_ _ | refine Below.alloc ?_ ?_ _ | refine below_drewN ?_ _ | refine Below.drew ?_ | (simp; done) | (simp; omega)))
  have HS := Lib.hid (fun B a1 a2 c1 c2 w hBw h1 h2 => spec_AddScaled B a1 a2 c1 c2 xs u ys (by omega) (by omega) w hBw h1 h2)
  have HI := Lib.hid (fun B a1 a2 c1 c2 w hBw h1 h2 => impl_AddScaled B a1 a2 c1 c2 xs u ys (by omega) (by omega) w hBw h1 h2)
  have HKB : Hid (OneB w.heap.size u wB) := by
    rw [← hw]
    obtain ⟨a, b, c⟩ := kept1 (Below.refl _ (w.alloc (.cells #[.int .i64 u.1, .int .i64 u.2] 35)))
    exact ⟨a, b, c⟩
  have hDl := Ve.sc_short xs u ys
  generalize Ve.scR xs u ys = D at *
  generalize Ve.scK xs u ys = K at *
  have HW := Lib.hid hw
  clear hL hw
  have hbx : xs.length ≤ 1048576 := by omega
  have hby : ys.length ≤ 1048576 := by omega
  go_enter Try.func5, Try.ntmps5
  go_wp2_with fail
  refine (sz_ok a xs.length cap 1048576 (by omega) (by omega) _).mono ?_
  rintro e w1 ⟨rfl, rfl⟩
  go_wp2_with fail
  refine (sz_ok b ys.length cbp _ (by omega) (by omega) _).mono ?_
  rintro e w1 ⟨rfl, rfl⟩
  go_wp2_with fail
  rw [HW.out]
  have HS0 := Lib.hid (Since.refl wB)
  have hzB : w.heap.size ≤ wB.heap.size := HbB.out.size
  refine wp_region_held_drew (S := (fun w' => w'.cell? ⟨w.heap.size, 0, none⟩ = some (.int .i64 u.1) ∧ w'.cell? ⟨w.heap.size, 1, none⟩ = some (.int .i64 u.2) ∧ Since wB w')) (by kernel_rfl) ?_ (fun hHeld => ?_)
  · exact OneB.three HKB (Since.drew HS0.out)
  obtain ⟨w1, hwd1⟩ : ∃ wd, wB.drew = wd := ⟨_, rfl⟩
  have HS1 : Hid (Since wB w1) := by rw [← hwd1]; exact HS0.out.drew
  have HL1 : Hid (AllS w1 [(b, ys, 0, w.heap.size), (a, xs, 0, w.heap.size)]) := by rw [← hwd1]; exact HL0.out.drew
  have hz1 : wB.heap.size ≤ w1.heap.size := by rw [← hwd1]; exact Nat.le_refl _
  try rw [hwd1] at hHeld
  rw [hwd1]
  clear hwd1 HS0 HL0
  refine wpAnyH_take (i := 0) (oi := { dst := some 30, op := Op.move (Operand.tmp 0), type := 22, pos := "exact.go:1437", after := #[], guard := none }) (v := ?_) rfl (by kernel_rfl) (by kernel_rfl) (by kernel_rfl) (fun _ _ _ h => h) (Or.inl ⟨by rfl, ?_⟩) (by assumption) ?_
  rotate_left 1
  · intro w hSw; (try dsimp only at hSw); go_simp; try (with_reducible rfl)
  try simp only [Act.put, List.setIfInBounds_toArray, List.set_cons_zero, List.set_cons_succ]
  refine wpAnyH_take (i := 2) (oi := { dst := some 32, op := Op.load 35 (Operand.tmp 4), type := 35, pos := "exact.go:1437", after := #[], guard := none }) (v := ?_) rfl (by kernel_rfl) (by kernel_rfl) (by kernel_rfl) (fun _ _ _ h => h) (Or.inl ⟨by rfl, ?_⟩) (by assumption) ?_
  rotate_left 1
  · intro w hSw; (try dsimp only at hSw); go_simp; try (with_reducible rfl)
  try simp only [Act.put, List.setIfInBounds_toArray, List.set_cons_zero, List.set_cons_succ]
  refine wpAnyH_take (i := 4) (oi := { dst := some 34, op := Op.move (Operand.tmp 2), type := 22, pos := "exact.go:1437", after := #[], guard := none }) (v := ?_) rfl (by kernel_rfl) (by kernel_rfl) (by kernel_rfl) (fun _ _ _ h => h) (Or.inl ⟨by rfl, ?_⟩) (by assumption) ?_
  rotate_left 1
  · intro w hSw; (try dsimp only at hSw); go_simp; try (with_reducible rfl)
  try simp only [Act.put, List.setIfInBounds_toArray, List.set_cons_zero, List.set_cons_succ]
  refine wpAnyH_ready (rs := [1]) (by kernel_rfl) (by simp) ?_
  refine AllReadyH.cons (o := { dst := some 31, op := Op.call { callee := Callee.value (Operand.func 10), args := #[Operand.tmp 30], argTypes := #[22] }, type := 25, pos := "exact.go:1437", after := #[{ on := 0, ground := Ground.data }], guard := none }) (rs := []) rfl (fun K hK => ?_) AllReadyH.nil
  go_simp
  (go_at_call 10; refine (laws_toRatS _ a cap xs (by omega) _ (Nat.le_refl _) (HL1.out.get a xs 0 w.heap.size (by simp))).mono ?_; rintro e w2 ⟨v2, rfl, ho2, hb2⟩; obtain ⟨a2, c2, rfl, hr2, ha2, _⟩ := own_rats ho2; have hz2 := hb2.size; have HS2 := Lib.hid (HS1.out.trans hb2); have HL2 := Lib.hid ((HL1.out.below hb2).add (lo := w1.heap.size) (hi := w2.heap.size) hr2 (fun p hp => (ha2 p hp).1) (Nat.le_refl _)); clear hb2 HS1 HL1  ho2 hr2 ha2)
  refine hK.out _ _ ?_ (fun hHeld => ?_)
  · exact OneB.three HKB HS2.out
  clear hK K
  try simp only [Act.put, List.setIfInBounds_toArray, List.set_cons_zero, List.set_cons_succ]
  refine wpAnyH_ready (rs := [3]) (by kernel_rfl) (by simp) ?_
  refine AllReadyH.cons (o := { dst := some 33, op := Op.call { callee := Callee.value (Operand.func 17), args := #[Operand.tmp 32], argTypes := #[35] }, type := 30, pos := "exact.go:1437", after := #[{ on := 2, ground := Ground.data }, { on := 1, ground := Ground.chain }], guard := none }) (rs := []) rfl (fun K hK => ?_) AllReadyH.nil
  go_simp
  (go_at_call 17; refine (laws_toRat u.1 u.2 _).mono ?_; rintro e w3 ⟨rfl, hb3⟩; have hz3 := hb3.size; have HS3 := Lib.hid (HS2.out.trans hb3); have HL3 := Lib.hid (HL2.out.below hb3); clear hb3 HS2 HL2 )
  refine hK.out _ _ ?_ (fun hHeld => ?_)
  · exact OneB.three HKB HS3.out
  clear hK K
  try simp only [Act.put, List.setIfInBounds_toArray, List.set_cons_zero, List.set_cons_succ]
  refine wpAnyH_ready (rs := [5]) (by kernel_rfl) (by simp) ?_
  refine AllReadyH.cons (o := { dst := some 35, op := Op.call { callee := Callee.value (Operand.func 10), args := #[Operand.tmp 34], argTypes := #[22] }, type := 25, pos := "exact.go:1437", after := #[{ on := 4, ground := Ground.data }, { on := 3, ground := Ground.chain }], guard := none }) (rs := []) rfl (fun K hK => ?_) AllReadyH.nil
  go_simp
  (go_at_call 10; refine (laws_toRatS _ b cbp ys (by omega) _ (Nat.le_refl _) (HL3.out.get b ys 0 w.heap.size (by simp))).mono ?_; rintro e w4 ⟨v4, rfl, ho4, hb4⟩; obtain ⟨a4, c4, rfl, hr4, ha4, _⟩ := own_rats ho4; have hz4 := hb4.size; have HS4 := Lib.hid (HS3.out.trans hb4); have HL4 := Lib.hid ((HL3.out.below hb4).add (lo := w3.heap.size) (hi := w4.heap.size) hr4 (fun p hp => (ha4 p hp).1) (Nat.le_refl _)); clear hb4 HS3 HL3  ho4 hr4 ha4)
  refine hK.out _ _ ?_ (fun hHeld => ?_)
  · exact OneB.three HKB HS4.out
  clear hK K
  try simp only [Act.put, List.setIfInBounds_toArray, List.set_cons_zero, List.set_cons_succ]
  refine wpAnyH_ready (rs := [6]) (by kernel_rfl) (by simp) ?_
  refine AllReadyH.cons (o := { dst := some 36, op := Op.call { callee := Callee.value (Operand.func 16), args := #[Operand.tmp 31, Operand.tmp 33, Operand.tmp 35], argTypes := #[25, 30, 25] }, type := 36, pos := "exact.go:1437", after := #[{ on := 1, ground := Ground.data }, { on := 3, ground := Ground.data }, { on := 5, ground := Ground.data }, { on := 5, ground := Ground.chain }], guard := none }) (rs := []) rfl (fun K hK => ?_) AllReadyH.nil
  go_simp
  (go_at_call 16; refine (HS.out _ a2 a4 c2 c4 _ (Nat.le_refl _) (HL4.out.get a2 xs w1.heap.size w2.heap.size (by simp)) (HL4.out.get a4 ys w3.heap.size w4.heap.size (by simp))).mono ?_; rintro e w5 ⟨v5, rfl, ho5, hb5⟩; obtain ⟨a5, c5, rfl, hr5, ha5, _⟩ := own_rats ho5; have hz5 := hb5.size; have HS5 := Lib.hid (HS4.out.trans hb5); have HL5 := Lib.hid ((HL4.out.below hb5).add (lo := w4.heap.size) (hi := w5.heap.size) hr5 (fun p hp => (ha5 p hp).1) (Nat.le_refl _)); clear hb5 HS4 HL4  ho5 hr5 ha5)
  refine hK.out _ _ ?_ (fun hHeld => ?_)
  · exact OneB.three HKB HS5.out
  clear hK K
  try simp only [Act.put, List.setIfInBounds_toArray, List.set_cons_zero, List.set_cons_succ]
  refine wpAnyH_take (i := 7) (oi := { dst := some 29, op := Op.move (Operand.tmp 36), type := 36, pos := "exact.go:1437", after := #[{ on := 6, ground := Ground.data }], guard := none }) (v := ?_) rfl (by kernel_rfl) (by kernel_rfl) (by kernel_rfl) (fun _ _ _ h => h) (Or.inl ⟨by rfl, ?_⟩) (by assumption) ?_
  rotate_left 1
  · intro w hSw; (try dsimp only at hSw); go_simp; try (with_reducible rfl)
  try simp only [Act.put, List.setIfInBounds_toArray, List.set_cons_zero, List.set_cons_succ]
  refine wpAnyH_take (i := 8) (oi := { dst := some 37, op := Op.extract (Operand.tmp 29) 0, type := 25, pos := "exact.go:1437", after := #[{ on := 7, ground := Ground.data }], guard := none }) (v := ?_) rfl (by kernel_rfl) (by kernel_rfl) (by kernel_rfl) (fun _ _ _ h => h) (Or.inl ⟨by rfl, ?_⟩) (by assumption) ?_
  rotate_left 1
  · intro w hSw; (try dsimp only at hSw); go_simp; try (with_reducible rfl)
  try simp only [Act.put, List.setIfInBounds_toArray, List.set_cons_zero, List.set_cons_succ]
  refine wpAnyH_take (i := 9) (oi := { dst := some 38, op := Op.extract (Operand.tmp 29) 1, type := 4, pos := "exact.go:1437", after := #[{ on := 7, ground := Ground.data }, { on := 10, ground := Ground.gcOnly Departure.lateStores }], guard := none }) (v := ?_) rfl (by kernel_rfl) (by kernel_rfl) (by kernel_rfl) (fun _ _ _ h => h) (Or.inl ⟨by rfl, ?_⟩) (by assumption) ?_
  rotate_left 1
  · intro w hSw; (try dsimp only at hSw); go_simp; try (with_reducible rfl)
  try simp only [Act.put, List.setIfInBounds_toArray, List.set_cons_zero, List.set_cons_succ]
  refine wpAnyH_take (i := 10) (oi := { dst := some 8, op := Op.assign (Operand.tmp 37), type := 25, pos := "exact.go:1437", after := #[{ on := 8, ground := Ground.data }, { on := 6, ground := Ground.chain }, { on := 0, ground := Ground.phase }, { on := 1, ground := Ground.phase }, { on := 2, ground := Ground.phase }, { on := 3, ground := Ground.phase }, { on := 4, ground := Ground.phase }, { on := 5, ground := Ground.phase }, { on := 6, ground := Ground.phase }, { on := 7, ground := Ground.phase }, { on := 8, ground := Ground.phase }, { on := 9, ground := Ground.textOnly Departure.lateStores }], guard := none }) (v := ?_) rfl (by kernel_rfl) (by kernel_rfl) (by kernel_rfl) (fun _ _ _ h => h) (Or.inl ⟨by rfl, ?_⟩) (by assumption) ?_
  rotate_left 1
  · intro w hSw; (try dsimp only at hSw); go_simp; try (with_reducible rfl)
  try simp only [Act.put, List.setIfInBounds_toArray, List.set_cons_zero, List.set_cons_succ]
  refine wpAnyH_take (i := 11) (oi := { dst := some 9, op := Op.assign (Operand.tmp 38), type := 4, pos := "exact.go:1437", after := #[{ on := 9, ground := Ground.data }, { on := 10, ground := Ground.chain }, { on := 0, ground := Ground.phase }, { on := 1, ground := Ground.phase }, { on := 2, ground := Ground.phase }, { on := 3, ground := Ground.phase }, { on := 4, ground := Ground.phase }, { on := 5, ground := Ground.phase }, { on := 6, ground := Ground.phase }, { on := 7, ground := Ground.phase }, { on := 8, ground := Ground.phase }, { on := 9, ground := Ground.phase }, { on := 10, ground := Ground.phase }], guard := none }) (v := ?_) rfl (by kernel_rfl) (by kernel_rfl) (by kernel_rfl) (fun _ _ _ h => h) (Or.inl ⟨by rfl, ?_⟩) (by assumption) ?_
  rotate_left 1
  · intro w hSw; (try dsimp only at hSw); go_simp; try (with_reducible rfl)
  try simp only [Act.put, List.setIfInBounds_toArray, List.set_cons_zero, List.set_cons_succ]
  refine wpAnyH_done (by kernel_rfl) ?_ _
  go_wp2_with fail
  refine (laws_toRatS _ a cap xs (by omega) _ (Nat.le_refl _) (HL5.out.get a xs 0 w.heap.size (by simp))).mono ?_
  rintro e w6 ⟨v6, rfl, ho6, hb6⟩
  obtain ⟨a6, c6, rfl, hr6, ha6, _⟩ := own_rats ho6
  have hz6 := hb6.size
  have HS6 := Lib.hid (HS5.out.trans hb6)
  have HL6 := Lib.hid ((HL5.out.below hb6).add (lo := w5.heap.size) (hi := w6.heap.size) hr6 (fun p hp => (ha6 p hp).1) (Nat.le_refl _))
  have HO6x6 := Lib.hid ho6
  have HK6 := Lib.hid (own_block ho6)
  clear hb6 HS5 HL5  ho6 hr6 ha6
  go_wp2_with fail
  refine (laws_toRatS _ b cbp ys (by omega) _ (Nat.le_refl _) (HL6.out.get b ys 0 w.heap.size (by simp))).mono ?_
  rintro e w7 ⟨v7, rfl, ho7, hb7⟩
  obtain ⟨a7, c7, rfl, hr7, ha7, _⟩ := own_rats ho7
  have hz7 := hb7.size
  have HS7 := Lib.hid (HS6.out.trans hb7)
  have HL7 := Lib.hid ((HL6.out.below hb7).add (lo := w6.heap.size) (hi := w7.heap.size) hr7 (fun p hp => (ha7 p hp).1) (Nat.le_refl _))
  have HO6x7 := Lib.hid (HO6x6.out.below hb7)
  have HO7x7 := Lib.hid ho7
  have HK7 := Lib.hid (own_block ho7)
  clear hb7 HS6 HL6 HO6x6 ho7 hr7 ha7
  obtain ⟨k0, k1, -⟩ := OneB.three HKB HS7.out
  go_wp2_with fail
  clear k0 k1
  refine (laws_toRat u.1 u.2 _).mono ?_
  rintro e w8 ⟨rfl, hb8⟩
  have hz8 := hb8.size
  have HS8 := Lib.hid (HS7.out.trans hb8)
  have HL8 := Lib.hid (HL7.out.below hb8)
  have HO6x8 := Lib.hid (HO6x7.out.below hb8)
  have HO7x8 := Lib.hid (HO7x7.out.below hb8)
  clear hb8 HS7 HL7 HO6x7 HO7x7
  go_wp2_with fail
  refine (HI.out _ a6 a7 c6 c7 _ (Nat.le_refl _) (HL8.out.get a6 xs w5.heap.size w6.heap.size (by simp)) (HL8.out.get a7 ys w6.heap.size w7.heap.size (by simp))).mono ?_
  rintro e w9 ⟨v9, rfl, ho9, hb9⟩
  obtain ⟨a9, c9, rfl, hr9, ha9, _⟩ := own_rats ho9
  have hz9 := hb9.size
  have HS9 := Lib.hid (HS8.out.trans hb9)
  have HL9 := Lib.hid ((HL8.out.below hb9).add (lo := w8.heap.size) (hi := w9.heap.size) hr9 (fun p hp => (ha9 p hp).1) (Nat.le_refl _))
  have HO6x9 := Lib.hid (HO6x8.out.below hb9)
  have HO7x9 := Lib.hid (HO7x8.out.below hb9)
  have HO9x9 := Lib.hid ho9
  have HK9 := Lib.hid (own_block ho9)
  clear hb9 HS8 HL8 HO6x8 HO7x8 ho9 hr9 ha9
  go_wp2_with fail
  refine (laws_eqRatS _ a9 a5 c9 c5 D (by omega) _ (Nat.le_refl _) (HL9.out.get a9 D w8.heap.size w9.heap.size (by simp)) (HL9.out.get a5 D w4.heap.size w5.heap.size (by simp))).mono ?_
  rintro e w10 ⟨rfl, hb10⟩
  have hz10 := hb10.size
  have HS10 := Lib.hid (HS9.out.trans hb10)
  have HL10 := Lib.hid (HL9.out.below hb10)
  have HO6x10 := Lib.hid (HO6x9.out.below hb10)
  have HO7x10 := Lib.hid (HO7x9.out.below hb10)
  have HO9x10 := Lib.hid (HO9x9.out.below hb10)
  clear hb10 HS9 HL9 HO6x9 HO7x9 HO9x9
  go_wp2_with fail
  refine (laws_toRatS _ a cap xs (by omega) _ (Nat.le_refl _) (HL10.out.get a xs 0 w.heap.size (by simp))).mono ?_
  rintro e w11 ⟨v11, rfl, ho11, hb11⟩
  obtain ⟨a11, c11, rfl, hr11, ha11, _⟩ := own_rats ho11
  have hz11 := hb11.size
  have HS11 := Lib.hid (HS10.out.trans hb11)
  have HL11 := Lib.hid ((HL10.out.below hb11).add (lo := w10.heap.size) (hi := w11.heap.size) hr11 (fun p hp => (ha11 p hp).1) (Nat.le_refl _))
  have HO6x11 := Lib.hid (HO6x10.out.below hb11)
  have HO7x11 := Lib.hid (HO7x10.out.below hb11)
  have HO9x11 := Lib.hid (HO9x10.out.below hb11)
  clear hb11 HS10 HL10 HO6x10 HO7x10 HO9x10 ho11 hr11 ha11
  go_wp2_with fail
  refine (laws_eqRatS _ a6 a11 c6 c11 xs (by omega) _ (Nat.le_refl _) (HL11.out.get a6 xs w5.heap.size w6.heap.size (by simp)) (HL11.out.get a11 xs w10.heap.size w11.heap.size (by simp))).mono ?_
  rintro e w12 ⟨rfl, hb12⟩
  have hz12 := hb12.size
  have HS12 := Lib.hid (HS11.out.trans hb12)
  have HL12 := Lib.hid (HL11.out.below hb12)
  have HO6x12 := Lib.hid (HO6x11.out.below hb12)
  have HO7x12 := Lib.hid (HO7x11.out.below hb12)
  have HO9x12 := Lib.hid (HO9x11.out.below hb12)
  clear hb12 HS11 HL11 HO6x11 HO7x11 HO9x11
  go_wp2_with fail
  refine (laws_toRatS _ b cbp ys (by omega) _ (Nat.le_refl _) (HL12.out.get b ys 0 w.heap.size (by simp))).mono ?_
  rintro e w13 ⟨v13, rfl, ho13, hb13⟩
  obtain ⟨a13, c13, rfl, hr13, ha13, _⟩ := own_rats ho13
  have hz13 := hb13.size
  have HS13 := Lib.hid (HS12.out.trans hb13)
  have HL13 := Lib.hid ((HL12.out.below hb13).add (lo := w12.heap.size) (hi := w13.heap.size) hr13 (fun p hp => (ha13 p hp).1) (Nat.le_refl _))
  have HO6x13 := Lib.hid (HO6x12.out.below hb13)
  have HO7x13 := Lib.hid (HO7x12.out.below hb13)
  have HO9x13 := Lib.hid (HO9x12.out.below hb13)
  clear hb13 HS12 HL12 HO6x12 HO7x12 HO9x12 ho13 hr13 ha13
  go_wp2_with fail
  refine (laws_eqRatS _ a7 a13 c7 c13 ys (by omega) _ (Nat.le_refl _) (HL13.out.get a7 ys w6.heap.size w7.heap.size (by simp)) (HL13.out.get a13 ys w12.heap.size w13.heap.size (by simp))).mono ?_
  rintro e w14 ⟨rfl, hb14⟩
  have hz14 := hb14.size
  have HS14 := Lib.hid (HS13.out.trans hb14)
  have HL14 := Lib.hid (HL13.out.below hb14)
  have HO6x14 := Lib.hid (HO6x13.out.below hb14)
  have HO7x14 := Lib.hid (HO7x13.out.below hb14)
  have HO9x14 := Lib.hid (HO9x13.out.below hb14)
  clear hb14 HS13 HL13 HO6x13 HO7x13 HO9x13
  go_wp2_with fail
  refine (laws_markFrom _ _ (1) (1) (by omega) xs (by omega) (by omega) _ HO6x14.out).mono ?_
  rintro e w15 ⟨rfl, ho15, hg15⟩
  have hz15 := hg15.size
  have HS15 := Lib.hid (HS14.out.grown hg15 (fun g hg => by have := HK6.out g hg; omega))
  have hl15 := (HL14.out.sub (L' := [(a13, ys, w12.heap.size, w13.heap.size), (a11, xs, w10.heap.size, w11.heap.size), (a9, D, w8.heap.size, w9.heap.size), (a7, ys, w6.heap.size, w7.heap.size), (a5, D, w4.heap.size, w5.heap.size), (a4, ys, w3.heap.size, w4.heap.size), (a2, xs, w1.heap.size, w2.heap.size), (b, ys, 0, w.heap.size), (a, xs, 0, w.heap.size)]) (fun p hp => by simp only [List.mem_cons, List.not_mem_nil, or_false] at hp ⊢; rcases hp with h | h | h | h | h | h | h | h | h <;> simp [h])).grown hg15 (fun p hp g hg => by
    have hk := HK6.out g hg
    simp only [List.mem_cons, List.not_mem_nil, or_false] at hp
    rcases hp with rfl | rfl | rfl | rfl | rfl | rfl | rfl | rfl | rfl <;> (dsimp only; omega))
  have HL15 := Lib.hid hl15
  have HO7x15 := Lib.hid (HO7x14.out.grown hg15 (fun g h1 h2 => by have := HK7.out g h1; have := HK6.out g h2; omega))
  have HO9x15 := Lib.hid (HO9x14.out.grown hg15 (fun g h1 h2 => by have := HK9.out g h1; have := HK6.out g h2; omega))
  clear ho15 hg15 hl15 HS14 HL14 HO6x14 HO7x14 HO9x14
  go_wp2_with fail
  refine (laws_markFrom _ _ (1 + 2 * (xs.length : Int)) (1 + 2 * xs.length) (by omega) ys (by omega) (by omega) _ HO7x15.out).mono ?_
  rintro e w16 ⟨rfl, ho16, hg16⟩
  have hz16 := hg16.size
  have HS16 := Lib.hid (HS15.out.grown hg16 (fun g hg => by have := HK7.out g hg; omega))
  have hl16 := (HL15.out.sub (L' := [(a13, ys, w12.heap.size, w13.heap.size), (a11, xs, w10.heap.size, w11.heap.size), (a9, D, w8.heap.size, w9.heap.size), (a5, D, w4.heap.size, w5.heap.size), (a4, ys, w3.heap.size, w4.heap.size), (a2, xs, w1.heap.size, w2.heap.size), (b, ys, 0, w.heap.size), (a, xs, 0, w.heap.size)]) (fun p hp => by simp only [List.mem_cons, List.not_mem_nil, or_false] at hp ⊢; rcases hp with h | h | h | h | h | h | h | h <;> simp [h])).grown hg16 (fun p hp g hg => by
    have hk := HK7.out g hg
    simp only [List.mem_cons, List.not_mem_nil, or_false] at hp
    rcases hp with rfl | rfl | rfl | rfl | rfl | rfl | rfl | rfl <;> (dsimp only; omega))
  have HL16 := Lib.hid hl16
  have HO9x16 := Lib.hid (HO9x15.out.grown hg16 (fun g h1 h2 => by have := HK9.out g h1; have := HK7.out g h2; omega))
  clear ho16 hg16 hl16 HS15 HL15 HO7x15 HO9x15
  go_wp2_with fail
  refine (laws_eqRatS _ a9 a5 c9 c5 D (by omega) _ (Nat.le_refl _) (HL16.out.get a9 D w8.heap.size w9.heap.size (by simp)) (HL16.out.get a5 D w4.heap.size w5.heap.size (by simp))).mono ?_
  rintro e w17 ⟨rfl, hb17⟩
  have hz17 := hb17.size
  have HS17 := Lib.hid (HS16.out.trans hb17)
  have HL17 := Lib.hid (HL16.out.below hb17)
  have HO9x17 := Lib.hid (HO9x16.out.below hb17)
  clear hb17 HS16 HL16 HO9x16
  go_wp2_with fail
  refine (laws_markFrom _ _ (1) (1) (by omega) D (by omega) (by omega) _ HO9x17.out).mono ?_
  rintro e w18 ⟨rfl, ho18, hg18⟩
  have hz18 := hg18.size
  have HS18 := Lib.hid (HS17.out.grown hg18 (fun g hg => by have := HK9.out g hg; omega))
  have hl18 := (HL17.out.sub (L' := [(a13, ys, w12.heap.size, w13.heap.size), (a11, xs, w10.heap.size, w11.heap.size), (a5, D, w4.heap.size, w5.heap.size), (a4, ys, w3.heap.size, w4.heap.size), (a2, xs, w1.heap.size, w2.heap.size), (b, ys, 0, w.heap.size), (a, xs, 0, w.heap.size)]) (fun p hp => by simp only [List.mem_cons, List.not_mem_nil, or_false] at hp ⊢; rcases hp with h | h | h | h | h | h | h <;> simp [h])).grown hg18 (fun p hp g hg => by
    have hk := HK9.out g hg
    simp only [List.mem_cons, List.not_mem_nil, or_false] at hp
    rcases hp with rfl | rfl | rfl | rfl | rfl | rfl | rfl <;> (dsimp only; omega))
  have hr18 := (marked_reads ho18).1.narrow (fun p hp => (block_of HK9.out p hp).2)
  have HL18 := Lib.hid (hl18.add (lo := w8.heap.size) (hi := w9.heap.size) hr18 (fun p hp => (block_of HK9.out p hp).1) (by omega))
  clear ho18 hg18 hl18 HS17 HL17 hr18 HO9x17
  go_wp2_with fail
  refine (laws_heldFrom _ a9 c9 (1) (1) D.length (by omega) (by omega) (by omega) _ (HL18.out.get a9 (marksR (1) D.length) w8.heap.size w9.heap.size (by simp))).mono ?_
  rintro e wh ⟨rfl, rfl⟩
  go_wp2_with fail
  refine wp_region_held_drew (S := (fun w' => w'.cell? ⟨w.heap.size, 0, none⟩ = some (.int .i64 u.1) ∧ w'.cell? ⟨w.heap.size, 1, none⟩ = some (.int .i64 u.2) ∧ Since wB w')) (by kernel_rfl) ?_ (fun hHeld => ?_)
  · exact OneB.three HKB (Since.drew HS18.out)
  obtain ⟨w19, hwd19⟩ : ∃ wd, w18.drew = wd := ⟨_, rfl⟩
  have HS19 : Hid (Since wB w19) := by rw [← hwd19]; exact HS18.out.drew
  have HL19 : Hid (AllS w19 [(a9, (marksR (1) D.length), w8.heap.size, w9.heap.size), (a13, ys, w12.heap.size, w13.heap.size), (a11, xs, w10.heap.size, w11.heap.size), (a5, D, w4.heap.size, w5.heap.size), (a4, ys, w3.heap.size, w4.heap.size), (a2, xs, w1.heap.size, w2.heap.size), (b, ys, 0, w.heap.size), (a, xs, 0, w.heap.size)]) := by rw [← hwd19]; exact HL18.out.drew
  have hz19 : w18.heap.size ≤ w19.heap.size := by rw [← hwd19]; exact Nat.le_refl _
  try rw [hwd19] at hHeld
  rw [hwd19]
  clear hwd19 HS18 HL18
  refine wpAnyH_take (i := 0) (oi := { dst := some 101, op := Op.move (Operand.tmp 0), type := 22, pos := "exact.go:1466", after := #[], guard := none }) (v := ?_) rfl (by kernel_rfl) (by kernel_rfl) (by kernel_rfl) (fun _ _ _ h => h) (Or.inl ⟨by rfl, ?_⟩) (by assumption) ?_
  rotate_left 1
  · intro w hSw; (try dsimp only at hSw); go_simp; try (with_reducible rfl)
  try simp only [Act.put, List.setIfInBounds_toArray, List.set_cons_zero, List.set_cons_succ]
  refine wpAnyH_take (i := 2) (oi := { dst := some 103, op := Op.load 35 (Operand.tmp 4), type := 35, pos := "exact.go:1466", after := #[], guard := none }) (v := ?_) rfl (by kernel_rfl) (by kernel_rfl) (by kernel_rfl) (fun _ _ _ h => h) (Or.inl ⟨by rfl, ?_⟩) (by assumption) ?_
  rotate_left 1
  · intro w hSw; (try dsimp only at hSw); go_simp; try (with_reducible rfl)
  try simp only [Act.put, List.setIfInBounds_toArray, List.set_cons_zero, List.set_cons_succ]
  refine wpAnyH_take (i := 4) (oi := { dst := some 105, op := Op.move (Operand.tmp 2), type := 22, pos := "exact.go:1466", after := #[], guard := none }) (v := ?_) rfl (by kernel_rfl) (by kernel_rfl) (by kernel_rfl) (fun _ _ _ h => h) (Or.inl ⟨by rfl, ?_⟩) (by assumption) ?_
  rotate_left 1
  · intro w hSw; (try dsimp only at hSw); go_simp; try (with_reducible rfl)
  try simp only [Act.put, List.setIfInBounds_toArray, List.set_cons_zero, List.set_cons_succ]
  refine wpAnyH_ready (rs := [1]) (by kernel_rfl) (by simp) ?_
  refine AllReadyH.cons (o := { dst := some 102, op := Op.call { callee := Callee.value (Operand.func 10), args := #[Operand.tmp 101], argTypes := #[22] }, type := 25, pos := "exact.go:1466", after := #[{ on := 0, ground := Ground.data }], guard := none }) (rs := []) rfl (fun K hK => ?_) AllReadyH.nil
  go_simp
  (go_at_call 10; refine (laws_toRatS _ a cap xs (by omega) _ (Nat.le_refl _) (HL19.out.get a xs 0 w.heap.size (by simp))).mono ?_; rintro e w20 ⟨v20, rfl, ho20, hb20⟩; obtain ⟨a20, c20, rfl, hr20, ha20, _⟩ := own_rats ho20; have hz20 := hb20.size; have HS20 := Lib.hid (HS19.out.trans hb20); have HL20 := Lib.hid ((HL19.out.below hb20).add (lo := w19.heap.size) (hi := w20.heap.size) hr20 (fun p hp => (ha20 p hp).1) (Nat.le_refl _)); clear hb20 HS19 HL19  ho20 hr20 ha20)
  refine hK.out _ _ ?_ (fun hHeld => ?_)
  · exact OneB.three HKB HS20.out
  clear hK K
  try simp only [Act.put, List.setIfInBounds_toArray, List.set_cons_zero, List.set_cons_succ]
  refine wpAnyH_ready (rs := [3]) (by kernel_rfl) (by simp) ?_
  refine AllReadyH.cons (o := { dst := some 104, op := Op.call { callee := Callee.value (Operand.func 17), args := #[Operand.tmp 103], argTypes := #[35] }, type := 30, pos := "exact.go:1466", after := #[{ on := 2, ground := Ground.data }, { on := 1, ground := Ground.chain }], guard := none }) (rs := []) rfl (fun K hK => ?_) AllReadyH.nil
  go_simp
  (go_at_call 17; refine (laws_toRat u.1 u.2 _).mono ?_; rintro e w21 ⟨rfl, hb21⟩; have hz21 := hb21.size; have HS21 := Lib.hid (HS20.out.trans hb21); have HL21 := Lib.hid (HL20.out.below hb21); clear hb21 HS20 HL20 )
  refine hK.out _ _ ?_ (fun hHeld => ?_)
  · exact OneB.three HKB HS21.out
  clear hK K
  try simp only [Act.put, List.setIfInBounds_toArray, List.set_cons_zero, List.set_cons_succ]
  refine wpAnyH_ready (rs := [5]) (by kernel_rfl) (by simp) ?_
  refine AllReadyH.cons (o := { dst := some 106, op := Op.call { callee := Callee.value (Operand.func 10), args := #[Operand.tmp 105], argTypes := #[22] }, type := 25, pos := "exact.go:1466", after := #[{ on := 4, ground := Ground.data }, { on := 3, ground := Ground.chain }], guard := none }) (rs := []) rfl (fun K hK => ?_) AllReadyH.nil
  go_simp
  (go_at_call 10; refine (laws_toRatS _ b cbp ys (by omega) _ (Nat.le_refl _) (HL21.out.get b ys 0 w.heap.size (by simp))).mono ?_; rintro e w22 ⟨v22, rfl, ho22, hb22⟩; obtain ⟨a22, c22, rfl, hr22, ha22, _⟩ := own_rats ho22; have hz22 := hb22.size; have HS22 := Lib.hid (HS21.out.trans hb22); have HL22 := Lib.hid ((HL21.out.below hb22).add (lo := w21.heap.size) (hi := w22.heap.size) hr22 (fun p hp => (ha22 p hp).1) (Nat.le_refl _)); clear hb22 HS21 HL21  ho22 hr22 ha22)
  refine hK.out _ _ ?_ (fun hHeld => ?_)
  · exact OneB.three HKB HS22.out
  clear hK K
  try simp only [Act.put, List.setIfInBounds_toArray, List.set_cons_zero, List.set_cons_succ]
  refine wpAnyH_ready (rs := [6]) (by kernel_rfl) (by simp) ?_
  refine AllReadyH.cons (o := { dst := some 107, op := Op.call { callee := Callee.value (Operand.func 18), args := #[Operand.tmp 102, Operand.tmp 104, Operand.tmp 106], argTypes := #[25, 30, 25] }, type := 36, pos := "exact.go:1466", after := #[{ on := 1, ground := Ground.data }, { on := 3, ground := Ground.data }, { on := 5, ground := Ground.data }, { on := 5, ground := Ground.chain }], guard := none }) (rs := []) rfl (fun K hK => ?_) AllReadyH.nil
  go_simp
  (go_at_call 18; refine (HI.out _ a20 a22 c20 c22 _ (Nat.le_refl _) (HL22.out.get a20 xs w19.heap.size w20.heap.size (by simp)) (HL22.out.get a22 ys w21.heap.size w22.heap.size (by simp))).mono ?_; rintro e w23 ⟨v23, rfl, ho23, hb23⟩; obtain ⟨a23, c23, rfl, hr23, ha23, _⟩ := own_rats ho23; have hz23 := hb23.size; have HS23 := Lib.hid (HS22.out.trans hb23); have HL23 := Lib.hid ((HL22.out.below hb23).add (lo := w22.heap.size) (hi := w23.heap.size) hr23 (fun p hp => (ha23 p hp).1) (Nat.le_refl _)); clear hb23 HS22 HL22  ho23 hr23 ha23)
  refine hK.out _ _ ?_ (fun hHeld => ?_)
  · exact OneB.three HKB HS23.out
  clear hK K
  try simp only [Act.put, List.setIfInBounds_toArray, List.set_cons_zero, List.set_cons_succ]
  refine wpAnyH_take (i := 7) (oi := { dst := some 100, op := Op.move (Operand.tmp 107), type := 36, pos := "exact.go:1466", after := #[{ on := 6, ground := Ground.data }], guard := none }) (v := ?_) rfl (by kernel_rfl) (by kernel_rfl) (by kernel_rfl) (fun _ _ _ h => h) (Or.inl ⟨by rfl, ?_⟩) (by assumption) ?_
  rotate_left 1
  · intro w hSw; (try dsimp only at hSw); go_simp; try (with_reducible rfl)
  try simp only [Act.put, List.setIfInBounds_toArray, List.set_cons_zero, List.set_cons_succ]
  refine wpAnyH_take (i := 8) (oi := { dst := some 108, op := Op.extract (Operand.tmp 100) 0, type := 25, pos := "exact.go:1466", after := #[{ on := 7, ground := Ground.data }], guard := none }) (v := ?_) rfl (by kernel_rfl) (by kernel_rfl) (by kernel_rfl) (fun _ _ _ h => h) (Or.inl ⟨by rfl, ?_⟩) (by assumption) ?_
  rotate_left 1
  · intro w hSw; (try dsimp only at hSw); go_simp; try (with_reducible rfl)
  try simp only [Act.put, List.setIfInBounds_toArray, List.set_cons_zero, List.set_cons_succ]
  refine wpAnyH_take (i := 9) (oi := { dst := some 109, op := Op.extract (Operand.tmp 100) 1, type := 4, pos := "exact.go:1466", after := #[{ on := 7, ground := Ground.data }, { on := 10, ground := Ground.gcOnly Departure.lateStores }], guard := none }) (v := ?_) rfl (by kernel_rfl) (by kernel_rfl) (by kernel_rfl) (fun _ _ _ h => h) (Or.inl ⟨by rfl, ?_⟩) (by assumption) ?_
  rotate_left 1
  · intro w hSw; (try dsimp only at hSw); go_simp; try (with_reducible rfl)
  try simp only [Act.put, List.setIfInBounds_toArray, List.set_cons_zero, List.set_cons_succ]
  refine wpAnyH_take (i := 10) (oi := { dst := some 17, op := Op.assign (Operand.tmp 108), type := 25, pos := "exact.go:1466", after := #[{ on := 8, ground := Ground.data }, { on := 6, ground := Ground.chain }, { on := 0, ground := Ground.phase }, { on := 1, ground := Ground.phase }, { on := 2, ground := Ground.phase }, { on := 3, ground := Ground.phase }, { on := 4, ground := Ground.phase }, { on := 5, ground := Ground.phase }, { on := 6, ground := Ground.phase }, { on := 7, ground := Ground.phase }, { on := 8, ground := Ground.phase }, { on := 9, ground := Ground.textOnly Departure.lateStores }], guard := none }) (v := ?_) rfl (by kernel_rfl) (by kernel_rfl) (by kernel_rfl) (fun _ _ _ h => h) (Or.inl ⟨by rfl, ?_⟩) (by assumption) ?_
  rotate_left 1
  · intro w hSw; (try dsimp only at hSw); go_simp; try (with_reducible rfl)
  try simp only [Act.put, List.setIfInBounds_toArray, List.set_cons_zero, List.set_cons_succ]
  refine wpAnyH_take (i := 11) (oi := { dst := some 18, op := Op.assign (Operand.tmp 109), type := 4, pos := "exact.go:1466", after := #[{ on := 9, ground := Ground.data }, { on := 10, ground := Ground.chain }, { on := 0, ground := Ground.phase }, { on := 1, ground := Ground.phase }, { on := 2, ground := Ground.phase }, { on := 3, ground := Ground.phase }, { on := 4, ground := Ground.phase }, { on := 5, ground := Ground.phase }, { on := 6, ground := Ground.phase }, { on := 7, ground := Ground.phase }, { on := 8, ground := Ground.phase }, { on := 9, ground := Ground.phase }, { on := 10, ground := Ground.phase }], guard := none }) (v := ?_) rfl (by kernel_rfl) (by kernel_rfl) (by kernel_rfl) (fun _ _ _ h => h) (Or.inl ⟨by rfl, ?_⟩) (by assumption) ?_
  rotate_left 1
  · intro w hSw; (try dsimp only at hSw); go_simp; try (with_reducible rfl)
  try simp only [Act.put, List.setIfInBounds_toArray, List.set_cons_zero, List.set_cons_succ]
  refine wpAnyH_done (by kernel_rfl) ?_ _
  go_wp2_with fail
  refine (laws_eqRatS _ a23 a5 c23 c5 D (by omega) _ (Nat.le_refl _) (HL23.out.get a23 D w22.heap.size w23.heap.size (by simp)) (HL23.out.get a5 D w4.heap.size w5.heap.size (by simp))).mono ?_
  rintro e w24 ⟨rfl, hb24⟩
  have hz24 := hb24.size
  have HS24 := Lib.hid (HS23.out.trans hb24)
  have HL24 := Lib.hid (HL23.out.below hb24)
  clear hb24 HS23 HL23
  go_wp2_with fail
  refine (laws_heldFrom _ a9 c9 (1) (1) D.length (by omega) (by omega) (by omega) _ (HL24.out.get a9 (marksR (1) D.length) w8.heap.size w9.heap.size (by simp))).mono ?_
  rintro e wh ⟨rfl, rfl⟩
  go_wp2_with fail
  go_ret
  exact ⟨rfl, HbB.out.trans (HS24.out.low.mono HbB.out.size)⟩
theorem fnExactAddScaled.walk (a : Option Addr) (cap : Nat) (xs : List R) (un ud : Int) (b : Option Addr) (cbp : Nat) (ys : List R) (w : World) (hm : xs.length ≤ 9223372036854775807) (hx : RatsIn w.heap.size w a xs) (hm2 : ys.length ≤ 9223372036854775807) (hy : RatsIn w.heap.size w b ys) :
    Calls Try.prog 5 #[.slice a xs.length cap, .agg #[.int .i64 un, .int .i64 ud], .slice b ys.length cbp] w fun e w' => e = .returned (.bool true) ∧ Below w.heap.size w w' := by
  have hb0 := (Below.refl w.heap.size w).alloc (Nat.le_refl _) (.cells #[.int .i64 un, .int .i64 ud] 35)
  by_cases hbig : ys.length + xs.length ≤ 1048576
  · exact fnExactAddScaled.small a cap xs (un, ud) b cbp ys w _ hbig rfl (((AllS.start _).add (lo := 0) (hx.below hb0) (fun _ _ => Nat.zero_le _) hb0.size).add (lo := 0) (hy.below hb0) (fun _ _ => Nat.zero_le _) hb0.size)
  · clear hx hy hb0
    by_cases hbig2 : xs.length ≤ 1048576
    · go_enter Try.func5, Try.ntmps5
      go_wp2_with fail
      refine (sz_ok a xs.length cap 1048576 (by omega) (by omega) _).mono ?_
      rintro e w1 ⟨rfl, rfl⟩
      go_wp2_with fail
      refine (sz_no b ys.length cbp _ (by omega) (by omega) (by omega) (by omega) _).mono ?_
      rintro e w1 ⟨rfl, rfl⟩
      go_wp2_with fail
      go_ret
      exact ⟨rfl, by (repeat' (first | exact Below.refl _ _ | exact Nat.le_refl _ | refine Below.setCell ?_ ?_ _ | refine Below.alloc ?_ ?_ _ | refine below_drewN ?_ _ | refine Below.drew ?_ | (simp; done) | (simp; omega)))⟩
    · go_enter Try.func5, Try.ntmps5
      go_wp2_with fail
      refine (sz_no a xs.length cap 1048576 (by omega) hm (by omega) (by omega) _).mono ?_
      rintro e w1 ⟨rfl, rfl⟩
      go_wp2_with fail
      go_ret
      exact ⟨rfl, by (repeat' (first | exact Below.refl _ _ | exact Nat.le_refl _ | refine Below.setCell ?_ ?_ _ | refine Below.alloc ?_ ?_ _ | refine below_drewN ?_ _ | refine Below.drew ?_ | (simp; done) | (simp; omega)))⟩
end Go.Proofs.Ytlaohlcghdbjhaa
