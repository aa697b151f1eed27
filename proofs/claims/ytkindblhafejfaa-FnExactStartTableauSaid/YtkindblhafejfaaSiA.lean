/- spec.l3Sign; EnteringColumn, the specification's and the code's. -/
import Derived.Test.YtkindblhafejfaaSiM
import Derived.Test.YtkindblhafejfaaTaB
import Derived.Test.YtkindblhafejfaaTaKm
namespace Go.Proofs.Ytkindblhafejfaa
open Go.RowKit
open Ve (R)
open Ta (T)
theorem spec_cmp (x y : R) (w : World) : Calls Try.prog 62 #[.agg #[.int .i64 x.1, .int .i64 x.2], .agg #[.int .i64 y.1, .int .i64 y.2]] w fun e w' => e = .returned (.int .i64 (Ta.how x y)) ∧ Below w.heap.size w w' := spec_CompareRat x.1 x.2 y.1 y.2 w
theorem impl_cmp (x y : R) (w : World) : Calls Try.prog 59 #[.agg #[.int .i64 x.1, .int .i64 x.2], .agg #[.int .i64 y.1, .int .i64 y.2]] w fun e w' => e = .returned (.int .i64 (Ta.how x y)) ∧ Below w.heap.size w w' := impl_CompareRat x.1 x.2 y.1 y.2 w
theorem impl_div (x y : R) (w : World) : Calls Try.prog 83 #[.agg #[.int .i64 x.1, .int .i64 x.2], .agg #[.int .i64 y.1, .int .i64 y.2]] w fun e w' => e = .returned (.tuple #[.agg #[.int .i64 (Ta.divR x y).1, .int .i64 (Ta.divR x y).2], .bool (Ta.divK x y)]) ∧ Below w.heap.size w w' := impl_DivRat x.1 x.2 y.1 y.2 w
set_option maxRecDepth 100000 in
set_option maxHeartbeats 1000000 in
theorem spec_l3Sign (x : R) (w : World) : Calls Try.prog 57 #[.agg #[.int .i64 x.1, .int .i64 x.2]] w fun e w' => e = .returned (.int .i64 (Ta.sgn x)) ∧ Below w.heap.size w w' := by
  have Hb := Lib.hid ((Below.refl w.heap.size w).alloc (Nat.le_refl _) (.cells #[.int .i64 x.1, .int .i64 x.2] 59))
  have hx := BoxAt.new w x
  obtain ⟨x0, x1, _, _⟩ := hx.four
  have Hx := Lib.hid hx
  have HC := Lib.hid (fun W => spec_cmp x (0, 1) W)
  have Hs := Lib.hid (show Ta.how x (0, 1) = Ta.sgn x from rfl)
  obtain ⟨s, hs⟩ : ∃ s, Ta.sgn x = s := ⟨_, rfl⟩
  rw [hs]
  rw [hs] at Hs
  clear hs hx
  go_enter Try.func57, Try.ntmps57
  go_upto_region 1 with fail
  generalize hW : w.alloc (.cells #[.int .i64 x.1, .int .i64 x.2] 59) = W at *
  have hin := (Since.refl W)
  have Cell := Lib.hid (fun w' (h : Since W w') => (show w'.cell? ⟨w.heap.size, 0, none⟩ = some (.int .i64 x.1) ∧ w'.cell? ⟨w.heap.size, 1, none⟩ = some (.int .i64 x.2) ∧ Since W w' from
    ⟨h.cell (p := ⟨w.heap.size, 0, none⟩) Hx.out.lt x0, h.cell (p := ⟨w.heap.size, 1, none⟩) Hx.out.lt x1, h⟩))
  clear hW
  go_region_held3 (fun w' => w'.cell? ⟨w.heap.size, 0, none⟩ = some (.int .i64 x.1) ∧ w'.cell? ⟨w.heap.size, 1, none⟩ = some (.int .i64 x.2) ∧ Since W w') (first | exact Cell.out _ (by assumption) | exact Cell.out _ (Since.drew (by assumption)))
    (first
      | (go_at_call 30; refine (calls_since (spec_l3Int 0 _) (by first | assumption | exact Since.drew (by assumption))).mono ?_; rintro e w' ⟨⟨rfl, _⟩, hin2⟩)
      | (go_at_call 62; refine (calls_since (HC.out _) (by first | assumption | exact Since.drew (by assumption))).mono ?_; rintro e w' ⟨⟨rfl, _⟩, hin2⟩))
  go_wp2_with fail
  go_ret
  exact ⟨ret_int Hs.out, Hb.out.trans (Below.mono (Since.low (B := W) (by assumption)) Hb.out.size)⟩
set_option maxRecDepth 100000 in
set_option maxHeartbeats 1000000 in
theorem spec_EnteringColumn (B : Nat) (a b ca : Option Addr) (c1 c2 cc : Nat) (t : T) (cost : List R) (last : Int) (hl0 : (Lit.int .i64 last).wf = true) (hn : cost.length ≤ 1048576) (w : World) (hBw : B ≤ w.heap.size) (h1 : RatsIn B w ca cost) :
    Calls Try.prog 21 #[tabV a b c1 c2 t, .slice ca cost.length cc, .int .i64 last] w fun e w' => e = .returned (.int .i64 (Ta.entR cost last)) ∧ Below w.heap.size w w' := by
  obtain ⟨RR, hRR⟩ : ∃ RR, Ta.entR cost last = RR := ⟨_, rfl⟩
  rw [hRR]
  have HRR := Lib.hid hRR
  have hb := (Below.refl w.heap.size w).alloc (Nat.le_refl _) (.cells #[.slice a t.rows.length c1, .slice b t.basis.length c2, .int .i64 t.cols] 30)
  have H1 := Lib.hid (h1.mono hBw)
  have Hb := Lib.hid hb
  obtain ⟨hlA, hlB⟩ := i64_bd hl0
  rw [show tabV a b c1 c2 t = .agg #[.slice a t.rows.length c1, .slice b t.basis.length c2, .int .i64 t.cols] from rfl]
  clear h1 hb hRR hl0
  by_cases hq : last ≤ (cost.length : Int)
  · have hd0 : decide (last ≤ (cost.length : Int)) = true := by rw [decide_eq_true_iff]; exact hq
    have HE : Hid (Ta.ent cost last.toNat = RR) := by show _ = _; rw [← HRR.out]; unfold Ta.entR; rw [if_pos hq]
    go_enter Try.func21, Try.ntmps21
    go_wp2_with fail
    go_loopw [7] (fun i wr => ∃ k : Nat, k ≤ cost.length ∧ i = .int .i64 k ∧ Hid (∀ j, j < k → 0 ≤ Ta.sgn (Ve.at_ cost j)) ∧ Hid (k ≤ last.toNat) ∧ Hid (Below w.heap.size w wr)) (fun i _ => cost.length - (intOf i).toNat)
    case atStart => exact ⟨0, Nat.zero_le _, rfl, fun j hj => absurd hj (by omega), Nat.zero_le _, Hb.out⟩
    case round =>
      obtain ⟨k, hk, rfl, hA, hL, hB⟩ := hrel
      by_cases hlt : (k : Int) < last
      · have hkc : k < cost.length := by omega
        have hd1 : decide ((k : Int) < last) = true := by rw [decide_eq_true_iff]; exact hlt
        obtain ⟨b1, o1, rfl, l1, p0, p1⟩ := (H1.out.below hB.out).at k hkc
        have n1 : (k : Int) < (cost.length : Int) := by omega
        have hsz := hB.out.size
        have Hyes := Lib.hid (fun h : Ta.sgn (Ve.at_ cost k) < 0 => (show (k : Int) = RR from (Ta.ent_first (fun i hi => by have := hA.out i hi; omega) h last.toNat (by omega)).symm.trans HE.out))
        have Hno := Lib.hid (fun h : 0 ≤ Ta.sgn (Ve.at_ cost k) => (fun j (hj : j < k + 1) => (show 0 ≤ Ta.sgn (Ve.at_ cost j) from by
          by_cases e : j = k
          · subst e; exact h
          · exact hA.out j (by omega))))
        generalize Ve.at_ cost k = x at *
        go_wp2_with fail
        refine (spec_l3Sign x _).mono ?_
        rintro e w1 ⟨rfl, hb1⟩
        have Hb2 := Lib.hid (hB.out.trans (hb1.mono hsz))
        generalize Ta.sgn x = s at *
        clear hb1 p0 p1
        by_cases hs : s < 0
        · have hd2 : decide (s < 0) = true := by rw [decide_eq_true_iff]; exact hs
          have Hr := Lib.hid (Hyes.out hs)
          go_wp2_with fail
          go_ret
          exact ⟨ret_int Hr.out, Hb2.out⟩
        · have hd2 : decide (s < 0) = false := by rw [decide_eq_false_iff_not]; exact hs
          have HA2 := Lib.hid (Hno.out (by omega))
          have HL2 : Hid (k + 1 ≤ last.toNat) := by show _ ≤ _; omega
          go_wp2_with fail
          go_roundw
          case rel => exact ⟨k + 1, by omega, by go_num, HA2, HL2, Hb2⟩
          case measure => simp [intOf]; omega
      · have hd1 : decide ((k : Int) < last) = false := by rw [decide_eq_false_iff_not]; exact hlt
        have Hr : Hid (-1 = RR) := by
          show _ = _
          have e := Ta.ent_none (cost := cost) (k := k) (fun i hi => by have := hA.out i hi; omega)
          have : k = last.toNat := by have := hL.out; omega
          rw [← HE.out, ← this, e]
        go_wp2_with fail
        go_ret
        exact ⟨ret_int Hr.out, hB.out⟩
  · have hd0 : decide (last ≤ (cost.length : Int)) = false := by rw [decide_eq_false_iff_not]; exact hq
    have Hr : Hid (-1 = RR) := by show _ = _; rw [← HRR.out]; unfold Ta.entR; rw [if_neg hq]
    by_cases hz : (0 : Int) < last
    · have hd1 : decide ((0 : Int) < last) = true := by rw [decide_eq_true_iff]; exact hz
      go_enter Try.func21, Try.ntmps21
      go_wp2_with fail
      go_loopw [7] (fun i wr => i = .int .i64 0 ∧ Hid (Below w.heap.size w wr)) (fun i _ => 5 - (intOf i).toNat)
      case atStart => exact ⟨rfl, Hb.out⟩
      case round =>
        obtain ⟨rfl, hB⟩ := hrel
        go_wp2_with fail
        go_ret
        exact ⟨ret_int Hr.out, hB.out⟩
    · have hz2 : (cost.length : Int) < last := by omega
      exact absurd hz2 (by omega)
set_option maxRecDepth 100000 in
set_option maxHeartbeats 1000000 in
theorem impl_EnteringColumn (B : Nat) (a b ca : Option Addr) (c1 c2 cc : Nat) (t : T) (cost : List R) (last : Int) (hl0 : (Lit.int .i64 last).wf = true) (hn : cost.length ≤ 1048576) (w : World) (hBw : B ≤ w.heap.size) (h1 : RatsIn B w ca cost) :
    Calls Try.prog 23 #[tabV a b c1 c2 t, .slice ca cost.length cc, .int .i64 last] w fun e w' => e = .returned (.int .i64 (Ta.entR cost last)) ∧ Below w.heap.size w w' := by
  obtain ⟨RR, hRR⟩ : ∃ RR, Ta.entR cost last = RR := ⟨_, rfl⟩
  rw [hRR]
  have HRR := Lib.hid hRR
  have hb := (Below.refl w.heap.size w).alloc (Nat.le_refl _) (.cells #[.slice a t.rows.length c1, .slice b t.basis.length c2, .int .i64 t.cols] 30)
  have H1 := Lib.hid (h1.mono hBw)
  have Hb := Lib.hid hb
  obtain ⟨hlA, hlB⟩ := i64_bd hl0
  rw [show tabV a b c1 c2 t = .agg #[.slice a t.rows.length c1, .slice b t.basis.length c2, .int .i64 t.cols] from rfl]
  clear h1 hb hRR hl0
  by_cases hq : last ≤ (cost.length : Int)
  · have hd0 : decide (last > (cost.length : Int)) = false := by rw [decide_eq_false_iff_not]; omega
    have HE : Hid (Ta.ent cost last.toNat = RR) := by show _ = _; rw [← HRR.out]; unfold Ta.entR; rw [if_pos hq]
    go_enter Try.func23, Try.ntmps23
    go_wp2_with fail
    go_loopw [13, 7] (fun i v7 wr => ∃ k : Nat, k ≤ cost.length ∧ i = .int .i64 k ∧ Hid (∀ j, j < k → 0 ≤ Ta.sgn (Ve.at_ cost j)) ∧ Hid (k ≤ last.toNat) ∧ Hid (Below w.heap.size w wr)) (fun i _ _ => cost.length - (intOf i).toNat)
    case atStart => exact ⟨0, Nat.zero_le _, rfl, fun j hj => absurd hj (by omega), Nat.zero_le _, Hb.out⟩
    case round =>
      obtain ⟨k, hk, rfl, hA, hL, hB⟩ := hrel
      by_cases hlt : (k : Int) < last
      · have hkc : k < cost.length := by omega
        have hd1 : decide ((k : Int) < last) = true := by rw [decide_eq_true_iff]; exact hlt
        obtain ⟨b1, o1, rfl, l1, p0, p1⟩ := (H1.out.below hB.out).at k hkc
        have n1 : (k : Int) < (cost.length : Int) := by omega
        have hsz := hB.out.size
        have Hyes := Lib.hid (fun h : Ta.sgn (Ve.at_ cost k) < 0 => (show (k : Int) = RR from (Ta.ent_first (fun i hi => by have := hA.out i hi; omega) h last.toNat (by omega)).symm.trans HE.out))
        have Hno := Lib.hid (fun h : 0 ≤ Ta.sgn (Ve.at_ cost k) => (fun j (hj : j < k + 1) => (show 0 ≤ Ta.sgn (Ve.at_ cost j) from by
          by_cases e : j = k
          · subst e; exact h
          · exact hA.out j (by omega))))
        generalize Ve.at_ cost k = x at *
        go_wp2_with fail
        refine (impl_cmp x (0, 1) _).mono ?_
        rintro e w1 ⟨rfl, hb1⟩
        rw [show Ta.how x (0, 1) = Ta.sgn x from rfl]
        have Hb2 := Lib.hid (hB.out.trans (hb1.mono hsz))
        generalize Ta.sgn x = s at *
        clear hb1 p0 p1
        by_cases hs : s < 0
        · have hd2 : decide (s < 0) = true := by rw [decide_eq_true_iff]; exact hs
          have Hr := Lib.hid (Hyes.out hs)
          go_wp2_with fail
          go_ret
          exact ⟨ret_int Hr.out, Hb2.out⟩
        · have hd2 : decide (s < 0) = false := by rw [decide_eq_false_iff_not]; exact hs
          have HA2 := Lib.hid (Hno.out (by omega))
          have HL2 : Hid (k + 1 ≤ last.toNat) := by show _ ≤ _; omega
          go_wp2_with fail
          go_roundw
          case rel => exact ⟨k + 1, by omega, by go_num, HA2, HL2, Hb2⟩
          case measure => simp [intOf]; omega
      · have hd1 : decide ((k : Int) < last) = false := by rw [decide_eq_false_iff_not]; exact hlt
        have Hr : Hid (-1 = RR) := by
          show _ = _
          have e := Ta.ent_none (cost := cost) (k := k) (fun i hi => by have := hA.out i hi; omega)
          have : k = last.toNat := by have := hL.out; omega
          rw [← HE.out, ← this, e]
        go_wp2_with fail
        go_ret
        exact ⟨ret_int Hr.out, hB.out⟩
  · have hd0 : decide (last > (cost.length : Int)) = true := by rw [decide_eq_true_iff]; omega
    have Hr : Hid (-1 = RR) := by show _ = _; rw [← HRR.out]; unfold Ta.entR; rw [if_neg hq]
    go_enter Try.func23, Try.ntmps23
    go_wp2_with fail
    go_ret
    exact ⟨ret_int Hr.out, Hb.out⟩
end Go.Proofs.Ytkindblhafejfaa
