/- slices.Grow of nil, slices.Concat at slices of fractions, impl.negated. -/
import Derived.Test.YtafkjebfdmgdeaaTaG
import Derived.Test.YtafkjebfdmgdeaaTaA
import Derived.Test.YtafkjebfdmgdeaaTaKm
import Derived.Lib.AppendZeros
namespace Go.Proofs.Ytafkjebfdmgdeaa
open Go.RowKit
open Ve (R)
open Ta (T)
set_option maxHeartbeats 1000000 in
theorem impl_negated (x : R) (w : World) : Calls Try.prog 102 #[.agg #[.int .i64 x.1, .int .i64 x.2]] w fun e w' => e = .returned (.agg #[.int .i64 (Ta.negR x).1, .int .i64 (Ta.negR x).2]) ∧ Below w.heap.size w w' := by
  rw [show (Ta.negR x).1 = Ta.w64 (-x.1) from rfl, show (Ta.negR x).2 = x.2 from rfl, ← wrap_w64]
  obtain ⟨y, hy⟩ : ∃ y, IntKind.i64.wrap (-x.1) = y := ⟨_, rfl⟩
  have Hy := Lib.hid hy
  rw [hy]
  go_enter Try.func102, Try.ntmps102
  go_wp2_with fail
  exact bodyPost_ret (v := .agg #[.int .i64 y, .int .i64 x.2]) (by simp [results, Try.results102, go_sem]) rfl ⟨rfl, by (repeat' (first | exact Below.refl _ _ | exact Nat.le_refl _ | refine Below.setCell ?_ ?_ _ | refine Below.alloc ?_ ?_ _ | refine below_drewN ?_ _ | refine Below.drew ?_ | (simp; done) | (simp; omega)))⟩
set_option maxRecDepth 100000 in
set_option maxHeartbeats 2000000 in
theorem slices_Grow (n : Nat) (hn : n ≤ 4000000) (w : World) : Calls Try.prog 154 #[.slice none 0 0, .int .i64 n] w fun e w' => ∃ v, e = .returned v ∧ OwnRats w.heap.size w' v [] ∧ Below w.heap.size w w' := by
  obtain ⟨i0, hi, hz0, hz1, hz2⟩ := info_parts info_rat
  have hneg : decide ((n : Int) < 0) = false := by rw [decide_eq_false_iff_not]; omega
  by_cases h0 : n = 0
  · subst h0
    go_enter Try.func154, Try.ntmps154
    go_wp2_with fail
    go_ret
    exact ⟨_, rfl, OwnRats.nil _ _, Below.refl _ _⟩
  · have hpos : decide ((n : Int) > 0) = true := by rw [decide_eq_true_iff]; omega
    have hrun := fun ty => Lib.run_append_nil_zeros (P := Try.prog) w 26 3 ty 30 i0 (.agg #[.int .i64 0, .int .i64 0]) .i64 .i64 Try.underlying26 Try.underlying3 hi hz0 n (by omega) (by rw [hz1]; decide) (by omega) (by rw [hz2]; omega)
    have hcap := grownCap_ge w n 0 30
    have hmax := grownCap_le_maxLen w n 0 30 (by unfold maxLen; omega)
    have Hown : Hid (OwnRats w.heap.size (w.drew.alloc (.cells (Builtin.zeroCells (Value.agg #[.int .i64 0, .int .i64 0]).cells n ++ Builtin.zeroCells (Value.agg #[.int .i64 0, .int .i64 0]).cells (grownCap w n 0 30 - n)) 30)) (.slice (some ⟨w.heap.size, 0, none⟩) 0 (grownCap w n 0 30)) []) := by
      refine World.ownsRow_made w.drew _ _ (Nat.le_refl _) hmax ?_
      rw [Array.size_append, size_zeroCells, size_zeroCells, ← Nat.add_mul, Nat.add_sub_cancel' hcap]
      rfl
    have Hb := Lib.hid ((Below.refl w.heap.size w).drew.alloc (Nat.le_refl _) (.cells (Builtin.zeroCells (Value.agg #[.int .i64 0, .int .i64 0]).cells n ++ Builtin.zeroCells (Value.agg #[.int .i64 0, .int .i64 0]).cells (grownCap w n 0 30 - n)) 30))
    have hRun := Lib.hid hrun
    have hcap0 : (0 : Int) ≤ (grownCap w n 0 30 : Int) := by omega
    generalize grownCap w n 0 30 = cap at *
    clear hrun hi hz0 hz1 hz2
    go_enter Try.func154, Try.ntmps154
    go_wp2_with (at_builtin; refine Lib.wpList_append_run _ rfl (.tmp 20) (.tmp 21) 26 3 rfl _ _ rfl rfl _ _ (hRun.out _) ?_)
    go_ret
    exact ⟨_, rfl, Hown.out, Hb.out⟩
theorem flatten_len : ∀ L : List (List R), L.flatten.length = cellsM L
  | [] => rfl
  | r :: L => by simp [cellsM, flatten_len L]
theorem flatten_take (L : List (List R)) (k : Nat) (h : k < L.length) : (L.take (k + 1)).flatten = (L.take k).flatten ++ rr L k := by
  rw [List.take_add_one, rr_get h]
  simp
set_option maxRecDepth 100000 in
set_option maxHeartbeats 2000000 in
theorem slices_Concat (B : Nat) (a : Option Addr) (c : Nat) (L : List (List R)) (hl : L.length ≤ 1048576) (hn : cellsM L ≤ 2000000) (w : World) (hBw : B ≤ w.heap.size) (h : RMatIn B w a L) :
    Calls Try.prog 99 #[.slice a L.length c] w (MakesRats L.flatten w) := by
  have H := Lib.hid (h.mono hBw)
  have HL := Lib.hid (fun k (hk : k < L.length) => cellsM_row L k hk)
  obtain ⟨X, hX⟩ : ∃ X, L.flatten = X := ⟨_, rfl⟩
  have HX := Lib.hid hX
  rw [hX]
  clear h hX
  go_enter Try.func99, Try.ntmps99
  go_wp2_with fail
  go_loop [3, 11] (fun q i => ∃ (k m : Nat), k ≤ L.length ∧ m ≤ 2000000 ∧ q = .int .i64 m ∧ i = .int .i64 k ∧ Hid (m = cellsM (L.take k))) (fun _ i => L.length - (intOf i).toNat)
  case atStart => exact ⟨0, 0, Nat.zero_le _, Nat.zero_le _, rfl, rfl, (by show 0 = _; simp [cellsM])⟩
  case round =>
    obtain ⟨k, m, hk, hm, rfl, rfl, hq⟩ := hrel
    by_cases hlt : k < L.length
    · obtain ⟨b, o, a', c', rfl, _, hcell, _⟩ := H.out k hlt
      have ht := cellsM_take L k hlt
      have hle : cellsM (L.take (k + 1)) ≤ cellsM L := cellsM_le L (k + 1)
      have hq2 := hq.out
      have hb : m + (rr L k).length ≤ 2000000 := by omega
      have Hq3 : Hid (m + (rr L k).length = cellsM (L.take (k + 1))) := by show _ = _; omega
      have hneg : decide ((m : Int) + ((rr L k).length : Int) < 0) = false := by rw [decide_eq_false_iff_not]; omega
      have hs1 : IntKind.i64.wrap ((m : Int) + ((rr L k).length : Int)) = (m : Int) + ((rr L k).length : Int) := IntWalk.i64_in _ (by omega)
      clear ht hle hq2
      generalize (rr L k).length = n at *
      go_wp2_with fail
      go_round
      case rel => exact ⟨k + 1, m + n, by omega, hb, by go_num, by go_num, Hq3⟩
      case measure => simp [intOf]; omega
    · have he : k = L.length := by omega
      have Hm : Hid (m = cellsM L) := by
        have := hq.out
        rw [he, List.take_of_length_le (Nat.le_refl _)] at this
        exact this
      have HG := Lib.hid (fun W => slices_Grow m (by omega) W)
      go_wp2_with fail
      refine (HG.out _).mono ?_
      rintro e w1 ⟨v, rfl, ho, hb⟩
      have HO := Lib.hid ho
      have HB := Lib.hid hb
      clear ho hb HG hlt he hq
      go_wp2_with fail
      go_loopw [6, 27] (fun v i wr => ∃ (k : Nat) (u : Value), u = v ∧ k ≤ L.length ∧ i = .int .i64 k ∧ Hid (OwnRats w.heap.size wr u (L.take k).flatten) ∧ Hid (Below w.heap.size w wr)) (fun _ i _ => L.length - (intOf i).toNat)
      case atStart => exact ⟨0, _, rfl, Nat.zero_le _, rfl, HO, HB⟩
      case round =>
        clear hk HO HB
        obtain ⟨k, u, rfl, hk, rfl, hO, hB⟩ := hrel
        by_cases hlt : k < L.length
        · obtain ⟨b, o, a', c', rfl, _, hcell, hrow⟩ := (H.out.below hB.out) k hlt
          have hlen : (L.take k).flatten.length + (rr L k).length ≤ 4000000 := by
            rw [flatten_len]
            have h1 : cellsM (L.take k) ≤ cellsM L := cellsM_le L k
            have h2 := HL.out k hlt
            omega
          have HR := Lib.hid hrow
          have He := Lib.hid (flatten_take L k hlt)
          have hsz := hB.out.size
          clear hrow
          generalize (L.take k).flatten = xs at *
          go_wp2_with (at_builtin; refine wpList_append_rats rfl _ _ rfl w.heap.size _ xs rfl hO.out a' (rr L k) _ c' rfl rfl _ HR.out hlen hsz ?_)
          intro v' w3 hown hgrow
          have Ho := Lib.hid hown
          have Hb := Lib.hid (hB.out.grown hgrow hsz (fun g hg => (World.ownsRow.lt hO.out g hg).1))
          rw [← He.out] at Ho
          clear hown hgrow
          go_wp2_with fail
          go_roundw
          case rel => exact ⟨k + 1, _, rfl, by omega, by go_num, Ho, Hb⟩
          case measure => simp [intOf]; omega
        · have he : k = L.length := by omega
          have HF : Hid (OwnRats w.heap.size wr u X) := by
            have := hO.out
            rw [he, List.take_of_length_le (Nat.le_refl _), HX.out] at this
            exact this
          go_wp2_with fail
          go_ret
          exact ⟨_, rfl, HF.out, hB.out⟩
end Go.Proofs.Ytafkjebfdmgdeaa
