/- InCore, both sides. -/
import Derived.Test.YtjkofijchdibdaaPyE
import Derived.Test.YtjkofijchdibdaaPyF
set_option maxRecDepth 100000
namespace Go.Proofs.Ytjkofijchdibdaa
open Go.RowKit
open Ve (R)
open Gm (G)
set_option maxHeartbeats 4000000 in
theorem spec_InCore {w : World} {x y v : Value} {g : G} {xs : List R} (r : Bool) (hrr : Py.inC g xs = r) (h : GmC w x y g) (hv : InRats w v xs) (hf : GmOk g) (hx : xs.length ≤ 1048576) :
  Calls Try.prog 53 #[.agg #[x, y], v] w fun e w' => e = .returned (.bool r) ∧ Below w.heap.size w w' := by
 obtain ⟨gn, gv⟩ := g
 obtain ⟨a, c, rfl, rfl, hi⟩ := h
 obtain ⟨W, hW⟩ : ∃ W, W = w.alloc (.cells #[.int .i64 gn, .slice a gv.length c] 32) := ⟨_, rfl⟩
 have hb := (Below.refl w.heap.size w).alloc (Nat.le_refl _) (.cells #[.int .i64 gn, .slice a gv.length c] 32)
 rw [← hW] at hb
 have HX := zH (show GmC W (.int .i64 gn) (.slice a gv.length c) ⟨gn, gv⟩ from GmC.up ⟨a, c, rfl, rfl, hi⟩ hb)
 have HV := zH (hv.up hb)
 have hlv : gv.length ≤ 1048576 := hf.1
 have HW := zH hW
 have HB := zH hb
 have HF := zH hf
 have hlo := hb.size
 have hll := Py.lst_len ⟨gn, gv⟩ xs
 clear hW hb hv hi hf
 obtain ⟨K, hK⟩ : ∃ K, Py.okE ⟨gn, gv⟩ xs = K := ⟨_, rfl⟩
 have HK := zH hK
 have HR := zH hrr
 clear hK hrr
 go_enter Try.func53, Try.ntmps53
 go_wp2_with fail
 ·
  rw [← HW.out]
  refine (spec_l11All HX.out HV.out HF.out hx).mono ?_
  rw [HK.out]
  rintro e w1 ⟨u, rfl, ho, hb1⟩
  obtain ⟨l, hl⟩ : ∃ l, Py.lst ⟨gn, gv⟩ xs = l := ⟨_, rfl⟩
  rw [hl] at ho hll
  have HL := zH hl
  obtain ⟨al, cl, rfl, hal, hpl, hnl⟩ := own_rats ho
  have HA := zH hal
  have HP := zH hpl
  have HB1 := zH (HB.out.trans (hb1.mono hlo))
  clear hl ho hb1 hal hpl hnl
  have hrl : Hid ((K && Py.low l l.length) = r) := by show _ = _; rw [← HR.out, ← HK.out, ← HL.out]; rfl
  clear HR HK HL
  go_wp2_with fail
  go_loop [7] (fun i => ∃ k : Nat, k ≤ l.length ∧ i = .int .i64 k ∧ Hid (Py.low l k = true)) (fun i => l.length - (intOf i).toNat)
  case atStart => exact ⟨0, Nat.zero_le _, rfl, rfl⟩
  case round =>
   obtain ⟨k, hk, rfl, hA⟩ := hrel
   by_cases hlt : k < l.length
   ·
    obtain ⟨b, o, rfl, hbl, p0, p1⟩ := HA.out.at k hlt
    have Hno := zH (fun h => Py.low_no (l := l) (k := k) h hlt)
    have Hyes := zH (fun h => Py.low_yes (l := l) (k := k) hA.out h)
    generalize Ve.at_ l k = x at *
    by_cases hz : 0 < x.1
    ·
     have d : decide (0 < x.1) = true := by rw [decide_eq_true_iff]; exact hz
     have HR2 : Hid (false = r) := by show _ = _; rw [← hrl.out, Hno.out hz]; simp
     clear Hno Hyes hrl
     go_wp2_with fail
     go_ret
     exact ⟨ret_bool HR2.out, HB1.out⟩
    ·
     have d : decide (0 < x.1) = false := by rw [decide_eq_false_iff_not]; exact hz
     have HA2 := zH (Hyes.out hz)
     clear Hno Hyes
     go_wp2_with fail
     go_round
     case rel => exact ⟨k + 1, by omega, by go_num, HA2⟩
     case measure => simp [intOf]; omega
   ·
    have he : k = l.length := by omega
    have HR2 : Hid (K = r) := by show _ = _; rw [← hrl.out, ← he, hA.out]; simp
    clear he hrl
    go_wp2_with fail
    go_ret
    exact ⟨ret_bool HR2.out, HB1.out⟩
theorem impl_InCore1 (x : R) (w : World) : Calls Try.prog 120 #[.agg #[.int .i64 x.1, .int .i64 x.2]] w fun e w' => e = .returned (.bool (decide (0 < x.1))) ∧ Below w.heap.size w w' := by
 go_enter Try.func120, Try.ntmps120
 go_wp2_with fail
 go_ret
 exact ⟨rfl, by (repeat' (first | exact Below.refl _ _ | exact Nat.le_refl _ | refine Below.setCell ?_ ?_ _ | refine Below.alloc ?_ ?_ _ | refine below_drewN ?_ _ | refine Below.drew ?_ | (simp; done) | (simp; omega)))⟩
set_option maxHeartbeats 1000000 in
theorem slices_IndexPos (B : Nat) (a : Option Addr) (c : Nat) (v : List R) (hn : v.length ≤ 1048576) (w : World) (hBw : B ≤ w.heap.size) (h1 : RatsIn B w a v) :
  Calls Try.prog 90 #[.slice a v.length c, .func (.func 120) #[] #[]] w fun e w' => (∃ r : Int, e = .returned (.int .i64 r) ∧ decide (0 ≤ r) = !Py.low v v.length) ∧ Below w.heap.size w w' := by
 have H1 := zH (h1.mono hBw)
 clear h1
 go_enter Try.func90, Try.ntmps90
 go_wp2_with fail
 go_loopw [8] (fun i wr => ∃ k : Nat, k ≤ v.length ∧ i = .int .i64 k ∧ Hid (Py.low v k = true) ∧ Hid (Below w.heap.size w wr)) (fun i _ => v.length - (intOf i).toNat)
 case atStart => exact ⟨0, Nat.zero_le _, rfl, rfl, Below.refl _ _⟩
 case round =>
  obtain ⟨k, hk, rfl, hA, hB⟩ := hrel
  by_cases hlt : k < v.length
  ·
   obtain ⟨b, o, rfl, hb, c0, c1⟩ := (H1.out.below hB.out).at k hlt
   rcases hv : decide (0 < (Ve.at_ v k).1) with _ | _
   ·
    have HA2 := zH (Py.low_yes (l := v) (k := k) hA.out (of_decide_eq_false hv))
    have Hc := zH (fun w => (show Calls Try.prog 120 #[.agg #[.int .i64 (Ve.at_ v k).1, .int .i64 (Ve.at_ v k).2]] w fun e w' => e = .returned (.bool false) ∧ Below w.heap.size w w' from hv ▸ impl_InCore1 (Ve.at_ v k) w))
    generalize Ve.at_ v k = x at *
    clear hv
    go_wp2_with fail
    refine (Hc.out _).mono ?_
    rintro e w1 ⟨rfl, hb1⟩
    have Hb := zH (hB.out.trans (hb1.mono hB.out.size))
    clear hb1
    go_wp2_with fail
    go_roundw
    case rel => exact ⟨k + 1, by omega, by go_num, HA2, Hb⟩
    case measure => simp [intOf]; omega
   ·
    have Hr := zH (Py.low_no (l := v) (k := k) (of_decide_eq_true hv) hlt)
    have Hc := zH (fun w => (show Calls Try.prog 120 #[.agg #[.int .i64 (Ve.at_ v k).1, .int .i64 (Ve.at_ v k).2]] w fun e w' => e = .returned (.bool true) ∧ Below w.heap.size w w' from hv ▸ impl_InCore1 (Ve.at_ v k) w))
    generalize Ve.at_ v k = x at *
    clear hv
    go_wp2_with fail
    refine (Hc.out _).mono ?_
    rintro e w1 ⟨rfl, hb1⟩
    have Hb := zH (hB.out.trans (hb1.mono hB.out.size))
    clear hb1
    go_wp2_with fail
    go_ret
    exact ⟨⟨k, rfl, by rw [Hr.out]; exact decide_eq_true (by omega)⟩, Hb.out⟩
  ·
   have he : k = v.length := by omega
   have Hr : Hid (Py.low v v.length = true) := by show _ = _; rw [← he]; exact hA.out
   clear he
   go_wp2_with fail
   go_ret
   exact ⟨⟨-1, rfl, by rw [Hr.out]; decide⟩, hB.out⟩
theorem slices_ContainsPos (B : Nat) (a : Option Addr) (c : Nat) (v : List R) (hn : v.length ≤ 1048576) (w : World) (hBw : B ≤ w.heap.size) (h1 : RatsIn B w a v) :
  Calls Try.prog 82 #[.slice a v.length c, .func (.func 120) #[] #[]] w fun e w' => e = .returned (.bool (!Py.low v v.length)) ∧ Below w.heap.size w w' := by
 have HI := zH (slices_IndexPos B a c v hn w hBw h1)
 clear h1
 generalize (!Py.low v v.length) = q at *
 go_enter Try.func82, Try.ntmps82
 go_wp2_with fail
 refine HI.out.mono ?_
 rintro e w1 ⟨⟨r, rfl, hr⟩, hb⟩
 have Hr := zH hr
 have Hb := zH hb
 clear hr hb
 go_wp2_with fail
 go_ret
 exact ⟨ret_bool Hr.out, Hb.out⟩
set_option maxHeartbeats 4000000 in
theorem impl_InCore {w : World} {x y v : Value} {g : G} {xs : List R} (r : Bool) (hrr : Py.inC g xs = r) (h : GmC w x y g) (hv : InRats w v xs) (hf : GmOk g) (hx : xs.length ≤ 1048576) :
  Calls Try.prog 118 #[.agg #[x, y], v] w fun e w' => e = .returned (.bool r) ∧ Below w.heap.size w w' := by
 obtain ⟨gn, gv⟩ := g
 obtain ⟨a, c, rfl, rfl, hi⟩ := h
 obtain ⟨W, hW⟩ : ∃ W, W = w.alloc (.cells #[.int .i64 gn, .slice a gv.length c] 32) := ⟨_, rfl⟩
 have hb := (Below.refl w.heap.size w).alloc (Nat.le_refl _) (.cells #[.int .i64 gn, .slice a gv.length c] 32)
 rw [← hW] at hb
 have HX := zH (show GmC W (.int .i64 gn) (.slice a gv.length c) ⟨gn, gv⟩ from GmC.up ⟨a, c, rfl, rfl, hi⟩ hb)
 have HV := zH (hv.up hb)
 have hlv : gv.length ≤ 1048576 := hf.1
 have HW := zH hW
 have HB := zH hb
 have HF := zH hf
 have hlo := hb.size
 have hll := Py.lst_len ⟨gn, gv⟩ xs
 clear hW hb hv hi hf
 obtain ⟨K, hK⟩ : ∃ K, Py.okE ⟨gn, gv⟩ xs = K := ⟨_, rfl⟩
 have HK := zH hK
 have HR := zH hrr
 clear hK hrr
 go_enter Try.func118, Try.ntmps118
 go_wp2_with fail
 ·
  rw [← HW.out]
  refine (impl_partExcesses HX.out HV.out HF.out hx).mono ?_
  rw [HK.out]
  rintro e w1 ⟨u, rfl, ho, hb1⟩
  obtain ⟨l, hl⟩ : ∃ l, Py.lst ⟨gn, gv⟩ xs = l := ⟨_, rfl⟩
  rw [hl] at ho hll
  have HL := zH hl
  obtain ⟨al, cl, rfl, hal, hpl, hnl⟩ := own_rats ho
  have HA := zH hal
  have HP := zH hpl
  have HB1 := zH (HB.out.trans (hb1.mono hlo))
  clear hl ho hb1 hal hpl hnl
  have hrl : Hid ((K && Py.low l l.length) = r) := by show _ = _; rw [← HR.out, ← HK.out, ← HL.out]; rfl
  have HC := zH (slices_ContainsPos w1.heap.size al cl l (by omega) w1 (Nat.le_refl _) HA.out)
  clear HR HK HL
  cases K with
  | false =>
   have HR2 : Hid (false = r) := by show _ = _; rw [← hrl.out]; rfl
   clear hrl
   go_wp2_with fail
   go_ret
   exact ⟨ret_bool HR2.out, HB1.out⟩
  | true =>
   have HR2 : Hid (Py.low l l.length = r) := by show _ = _; rw [← hrl.out]; simp
   clear hrl
   generalize Py.low l l.length = q at *
   go_wp2_with fail
   refine HC.out.mono ?_
   rintro e w2 ⟨rfl, hb2⟩
   have HB2 := zH (HB1.out.trans (hb2.mono HB1.out.size))
   clear hb2 HC
   go_wp2_with fail
   go_ret
   exact ⟨ret_bool HR2.out, HB2.out⟩
end Go.Proofs.Ytjkofijchdibdaa
