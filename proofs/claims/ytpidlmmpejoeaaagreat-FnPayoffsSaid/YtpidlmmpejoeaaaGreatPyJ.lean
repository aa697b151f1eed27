/- IsImputation, both sides. -/
import Derived.Test.YtpidlmmpejoeaaaGreatPyC
import Derived.Test.YtpidlmmpejoeaaaGreatPyD
import Derived.Test.YtpidlmmpejoeaaaGreatPyC2
set_option maxRecDepth 100000
namespace Go.Proofs.YtpidlmmpejoeaaaGreat
open Go.RowKit
open Ve (R)
open Gm (G)
set_option maxHeartbeats 4000000 in
theorem spec_IsImputation {w : World} {x y v : Value} {g : G} {xs : List R} (r : Bool) (hrr : Py.imp g xs = r) (h : GmC w x y g) (hv : InRats w v xs) (hf : GmOk g) (hx : xs.length ≤ 1048576) :
  Calls Tryz.prog 17 #[.agg #[x, y], v] w fun e w' => e = .returned (.bool r) ∧ Below w.heap.size w w' := by
 obtain ⟨gn, gv⟩ := g
 obtain ⟨a, c, rfl, rfl, hi⟩ := h
 obtain ⟨W, hW⟩ : ∃ W, W = w.alloc (.cells #[.int .i64 gn, .slice a gv.length c] 26) := ⟨_, rfl⟩
 have hb := (Below.refl w.heap.size w).alloc (Nat.le_refl _) (.cells #[.int .i64 gn, .slice a gv.length c] 26)
 have hc := CellsAt.new w #[.int .i64 gn, .slice a gv.length c] 26
 rw [← hW] at hb hc
 have HC := zH hc
 have HX := zH (show GmC W (.int .i64 gn) (.slice a gv.length c) ⟨gn, gv⟩ from GmC.up ⟨a, c, rfl, rfl, hi⟩ hb)
 have HV := zH (hv.up hb)
 have hlv : gv.length ≤ 1048576 := hf.1
 have HW := zH hW
 have HB := zH hb
 have HF := zH hf
 have hlo := hb.size
 clear hc hW hb hv hi hf
 obtain ⟨av, cv, rfl, hav⟩ := HV.out
 have HA := zH hav
 have HR := zH hrr
 clear hav hrr
 go_enter Tryz.func17, Tryz.ntmps17
 go_wp2_with fail
 rw [← HW.out]
 go_loopw [5] (fun i wr => ∃ k : Nat, k ≤ Py.cnt xs ∧ i = .int .i64 k ∧ Hid (Py.fair ⟨gn, gv⟩ xs k = true) ∧ Hid (Below W.heap.size W wr)) (fun i _ => 5 - (intOf i).toNat)
 case atStart => exact ⟨0, Nat.zero_le _, rfl, rfl, Below.refl _ _⟩
 case round =>
  obtain ⟨k, hk, rfl, hA, hB⟩ := hrel
  have hcn := Py.cnt_le xs
  have hsz := hB.out.size
  by_cases hl : k < xs.length ∧ k < 5
  ·
   obtain ⟨hl1, hl2⟩ := hl
   have hkc := Py.cnt_is hl1 hl2
   have n1 : (k : Int) < (xs.length : Int) := by omega
   have n2 : (k : Int) < 5 := by omega
   obtain ⟨b, o, rfl, lb, q0, q1⟩ := (HA.out.below hB.out).at k hl1
   have lbr : b < wr.heap.size := by omega
   have Hno := zH (fun h => Py.fair_no (g := ⟨gn, gv⟩) (x := xs) (k := k) h hkc)
   have Hyes := zH (fun h => Py.fair_yes (g := ⟨gn, gv⟩) (x := xs) (k := k) hA.out h)
   have hcw := HC.out.below hB.out
   have HXr := zH (HX.out.up hB.out)
   have Hc := zH (fun w => spec_cmpX (Ve.at_ xs k) (Py.whole (Gm.val ⟨gn, gv⟩ ((2 ^ k : Nat) : Int))) w)
   have Hva := zH (fun (W' : World) (h : GmC W' (.int .i64 gn) (.slice a gv.length c) ⟨gn, gv⟩) => spec_ValueOf ((2 ^ k : Nat) : Int) h HF.out)
   have Hbi := zH (fun W' => spec_l2Bit k (by omega) W')
   generalize Ve.at_ xs k = xx at *
   generalize Gm.val ⟨gn, gv⟩ ((2 ^ k : Nat) : Int) = z at *
   generalize Py.cmp xx (Py.whole z) = q at *
   generalize ((2 ^ k : Nat) : Int) = p2 at *
   have Cell := zH (fun w' (h : Since wr w') => (show (fun w' => w'.cell? ⟨w.heap.size, 0, none⟩ = some (.int .i64 gn) ∧ w'.cell? ⟨w.heap.size, 1, none⟩ = some (.slice a gv.length c) ∧ w'.cell? ⟨b, o + k * 2, none⟩ = some (.int .i64 xx.1) ∧ w'.cell? ⟨b, o + k * 2 + 1, none⟩ = some (.int .i64 xx.2) ∧ Since wr w') w' from
    ⟨h.cell (p := ⟨w.heap.size, 0, none⟩) (lt_of_at hcw) (two hcw).1, h.cell (p := ⟨w.heap.size, 1, none⟩) (lt_of_at hcw) (two hcw).2, h.cell (p := ⟨b, o + k * 2, none⟩) lbr q0, h.cell (p := ⟨b, o + k * 2 + 1, none⟩) lbr q1, h⟩))
   obtain ⟨m0, m1⟩ := two hcw
   clear hcw q0 q1
   go_upto_region 4 with (fail)
   have hg0 := (Since.refl wr).drew
   refine wp_region_held_drew (S := (fun w' => w'.cell? ⟨w.heap.size, 0, none⟩ = some (.int .i64 gn) ∧ w'.cell? ⟨w.heap.size, 1, none⟩ = some (.slice a gv.length c) ∧ w'.cell? ⟨b, o + k * 2, none⟩ = some (.int .i64 xx.1) ∧ w'.cell? ⟨b, o + k * 2 + 1, none⟩ = some (.int .i64 xx.2) ∧ Since wr w')) (by kernel_rfl) ?_ (fun hHeld => ?_)
   ·
    exact Cell.out _ hg0
   refine tk1 0 ⟨some 16, .move (.tmp 1), 27, "l11_payoff.go:92", #[], none⟩ ?_
   refine tk1 1 ⟨some 17, .move (.tmp 5), 3, "l11_payoff.go:92", #[], none⟩ ?_
   refine tk1 2 ⟨some 18, .indexAddr 27 (.tmp 16) (.tmp 17), 0, "l11_payoff.go:92", #[⟨0, .data⟩, ⟨1, .data⟩], none⟩ ?_
   refine tk1 3 ⟨some 19, .load 32 (.tmp 18), 32, "l11_payoff.go:92", #[⟨2, .data⟩], none⟩ ?_
   refine tk1 4 ⟨some 20, .load 26 (.tmp 2), 26, "l11_payoff.go:92", #[], none⟩ ?_
   refine tk1 5 ⟨some 21, .move (.tmp 5), 3, "l11_payoff.go:92", #[], none⟩ ?_
   try simp only [Act.put, zA, zB, zC]
   refine rd1 6 ⟨some 22, .call { callee := .value (.func 46), args := #[.tmp 21], argTypes := #[3] }, 3, "l11_payoff.go:92", #[⟨5, .data⟩], none⟩ fun K hK => ?_
   go_simp
   (go_at_call 46; refine (Hbi.out _).mono ?_; rintro e w5 ⟨rfl, rfl⟩)
   refine hK.out _ _ ?_ (fun hHeld => ?_)
   ·
    exact Cell.out _ hg0
   clear hK K
   try simp only [Act.put, zA, zB, zC]
   refine rd1 7 ⟨some 23, .call { callee := .value (.func 45), args := #[.tmp 20, .tmp 22], argTypes := #[26, 3] }, 3, "l11_payoff.go:92", #[⟨4, .data⟩, ⟨6, .data⟩, ⟨6, .chain⟩], none⟩ fun K hK => ?_
   go_simp
   (go_at_call 45; refine (Hva.out _ (HXr.out.up hg0.low)).mono ?_; rintro e w6 ⟨rfl, hb6⟩; have hg6 := hg0.trans hb6)
   refine hK.out _ _ ?_ (fun hHeld => ?_)
   ·
    exact Cell.out _ hg6
   clear hK K
   try simp only [Act.put, zA, zB, zC]
   refine rd1 8 ⟨some 24, .call { callee := .value (.func 42), args := #[.tmp 23], argTypes := #[3] }, 32, "l11_payoff.go:92", #[⟨7, .data⟩, ⟨7, .chain⟩], none⟩ fun K hK => ?_
   go_simp
   (go_at_call 42; refine (spec_l3Int z _).mono ?_; rintro e w7 ⟨rfl, hb7⟩; have hg7 := hg6.trans hb7)
   refine hK.out _ _ ?_ (fun hHeld => ?_)
   ·
    exact Cell.out _ hg7
   clear hK K
   try simp only [Act.put, zA, zB, zC]
   refine rd1 9 ⟨some 25, .call { callee := .value (.func 34), args := #[.tmp 19, .tmp 24], argTypes := #[32, 32] }, 3, "l11_payoff.go:92", #[⟨3, .data⟩, ⟨8, .data⟩, ⟨8, .chain⟩], none⟩ fun K hK => ?_
   go_simp
   (go_at_call 34; refine (Hc.out _).mono ?_; rintro e w8 ⟨rfl, hb8⟩; have hg8 := hg7.trans hb8)
   refine hK.out _ _ ?_ (fun hHeld => ?_)
   ·
    exact Cell.out _ hg8
   clear hK K
   refine tk1 10 ⟨some 26, .binOp .lss 3 (.tmp 25) (.const (Value.int IntKind.i64 0)) 3, 4, "l11_payoff.go:92", #[⟨9, .data⟩], none⟩ ?_
   try simp only [Act.put, zA, zB, zC]
   refine wpAnyH_done (by kernel_rfl) ?_ _
   have HB8 := zH (hB.out.trans (hg8.low.mono hsz))
   clear Cell hg0 hg6 hg7 hg8 hb6 hb7 hb8 m0 m1 Hc Hva Hbi
   rcases hd : decide (q < 0) with _ | _
   ·
    have HA2 := zH (Hyes.out hd)
    have hd2 : ¬ q < 0 := of_decide_eq_false hd
    clear Hno Hyes
    go_wp2_with fail
    go_roundw
    case rel => exact ⟨k + 1, by omega, by go_num, HA2, HB8⟩
    case measure => simp [intOf]; omega
   ·
    have HR2 : Hid (false = r) := by show _ = _; rw [← HR.out, Py.imp, Hno.out hd]; simp
    have hd2 : q < 0 := of_decide_eq_true hd
    clear Hno Hyes
    go_wp2_with fail
    go_ret
    exact ⟨ret_bool HR2.out, HB.out.trans (HB8.out.mono hlo)⟩
  ·
   have he := Py.cnt_end hk hl
   have HR2 : Hid (Py.isPay ⟨gn, gv⟩ xs = r) := by show _ = _; rw [← HR.out, Py.imp, ← he, hA.out]; simp
   obtain ⟨m0, m1⟩ := two (HC.out.below hB.out)
   by_cases hl1 : k < xs.length
   ·
    have n1 : (k : Int) < (xs.length : Int) := by omega
    have n2 : ¬ (k : Int) < 5 := by omega
    have n3 : ¬ k < 5 := by omega
    clear he
    go_wp2_with fail
    refine (spec_IsPayoff r HR2.out (HX.out.up hB.out) (InRats.up ⟨av, cv, rfl, HA.out⟩ hB.out) HF.out hx).mono ?_
    rintro e w2 ⟨rfl, hb2⟩
    have HB2 := zH (HB.out.trans ((hB.out.trans (hb2.mono hsz)).mono hlo))
    clear hb2
    go_wp2_with fail
    go_ret
    exact ⟨rfl, HB2.out⟩
   ·
    have n1 : ¬ (k : Int) < (xs.length : Int) := by omega
    clear he
    go_wp2_with fail
    refine (spec_IsPayoff r HR2.out (HX.out.up hB.out) (InRats.up ⟨av, cv, rfl, HA.out⟩ hB.out) HF.out hx).mono ?_
    rintro e w2 ⟨rfl, hb2⟩
    have HB2 := zH (HB.out.trans ((hB.out.trans (hb2.mono hsz)).mono hlo))
    clear hb2
    go_wp2_with fail
    go_ret
    exact ⟨rfl, HB2.out⟩
set_option maxHeartbeats 4000000 in
theorem impl_IsImputation {w : World} {x y v : Value} {g : G} {xs : List R} (r : Bool) (hrr : Py.imp g xs = r) (h : GmC w x y g) (hv : InRats w v xs) (hf : GmOk g) (hx : xs.length ≤ 1048576) :
  Calls Tryz.prog 16 #[.agg #[x, y], v] w fun e w' => e = .returned (.bool r) ∧ Below w.heap.size w w' := by
 obtain ⟨gn, gv⟩ := g
 obtain ⟨a, c, rfl, rfl, hi⟩ := h
 obtain ⟨W, hW⟩ : ∃ W, W = w.alloc (.cells #[.int .i64 gn, .slice a gv.length c] 26) := ⟨_, rfl⟩
 have hb := (Below.refl w.heap.size w).alloc (Nat.le_refl _) (.cells #[.int .i64 gn, .slice a gv.length c] 26)
 have hc := CellsAt.new w #[.int .i64 gn, .slice a gv.length c] 26
 rw [← hW] at hb hc
 have HC := zH hc
 have HX := zH (show GmC W (.int .i64 gn) (.slice a gv.length c) ⟨gn, gv⟩ from GmC.up ⟨a, c, rfl, rfl, hi⟩ hb)
 have HV := zH (hv.up hb)
 have hlv : gv.length ≤ 1048576 := hf.1
 have HW := zH hW
 have HB := zH hb
 have HF := zH hf
 have hlo := hb.size
 clear hc hW hb hv hi hf
 obtain ⟨av, cv, rfl, hav⟩ := HV.out
 have HA := zH hav
 have HR := zH hrr
 clear hav hrr
 rcases hp : Py.isPay ⟨gn, gv⟩ xs with _ | _
 ·
  have HR2 : Hid (false = r) := by show _ = _; rw [← HR.out, Py.imp, hp]; rfl
  have HP := zH hp
  clear hp
  go_enter Tryz.func16, Tryz.ntmps16
  go_wp2_with fail
  rw [← HW.out]
  refine (impl_IsPayoff false HP.out HX.out HV.out HF.out hx).mono ?_
  rintro e w1 ⟨rfl, hb1⟩
  have HB1 := zH (HB.out.trans (hb1.mono hlo))
  clear hb1
  go_wp2_with fail
  go_ret
  exact ⟨ret_bool HR2.out, HB1.out⟩
 ·
  have HR2 : Hid (Py.fair ⟨gn, gv⟩ xs xs.length = r) := by show _ = _; rw [← HR.out, Py.imp, hp, Py.cnt_pay hp]; simp
  have h5 : xs.length ≤ 5 := by have h1 := Py.cnt_pay hp; have h2 := (Py.cnt_le xs).2; omega
  have HP := zH hp
  clear hp HR
  go_enter Tryz.func16, Tryz.ntmps16
  go_wp2_with fail
  rw [← HW.out]
  refine (impl_IsPayoff true HP.out HX.out HV.out HF.out hx).mono ?_
  rintro e w1 ⟨rfl, hb1⟩
  have HB1 := zH hb1
  clear hb1
  go_wp2_with fail
  go_loopw [13] (fun i wr => ∃ k : Nat, k ≤ xs.length ∧ i = .int .i64 k ∧ Hid (Py.fair ⟨gn, gv⟩ xs k = true) ∧ Hid (Below W.heap.size W wr)) (fun i _ => 5 - (intOf i).toNat)
  case atStart => exact ⟨0, Nat.zero_le _, rfl, rfl, HB1⟩
  case round =>
   clear HB1
   obtain ⟨k, hk, rfl, hA, hB⟩ := hrel
   have hsz := hB.out.size
   by_cases hl1 : k < xs.length
   ·
    have n1 : (k : Int) < (xs.length : Int) := by omega
    obtain ⟨b, o, rfl, lb, q0, q1⟩ := (HA.out.below hB.out).at k hl1
    have Hno := zH (fun h => Py.fair_no (g := ⟨gn, gv⟩) (x := xs) (k := k) h hl1)
    have Hyes := zH (fun h => Py.fair_yes (g := ⟨gn, gv⟩) (x := xs) (k := k) hA.out h)
    have hk5 : k < 5 := by omega
    have hsh : IntKind.i64.wrap ((2 : Int) ^ k) = 2 ^ k := IntWalk.i64_in _ (by have h2 := Co.two_pow k hk5; omega)
    have hpc : ((2 ^ k : Nat) : Int) = (2 : Int) ^ k := by simp
    have Hc := zH (fun w => impl_cmpX (Ve.at_ xs k) (Py.whole (Gm.val ⟨gn, gv⟩ ((2 ^ k : Nat) : Int))) w)
    have Hva := zH (fun (W' : World) (h : GmC W' (.int .i64 gn) (.slice a gv.length c) ⟨gn, gv⟩) => impl_ValueOf ((2 ^ k : Nat) : Int) h HF.out)
    rw [hpc] at Hc Hva Hno Hyes
    generalize Ve.at_ xs k = xx at *
    generalize Gm.val ⟨gn, gv⟩ ((2 : Int) ^ k) = z at *
    generalize Py.cmp xx (Py.whole z) = q at *
    have hcw0 := HC.out.below hB.out
    obtain ⟨W5, hW5⟩ : ∃ W5, wr.alloc (.cells #[.int .i64 xx.1, .int .i64 xx.2] 32) = W5 := ⟨_, rfl⟩
    have hcw := hcw0.more (.cells #[.int .i64 xx.1, .int .i64 xx.2] 32)
    have hbx := BoxAt.new wr xx
    have HB5 := zH (hB.out.alloc hsz (.cells #[.int .i64 xx.1, .int .i64 xx.2] 32))
    rw [hW5] at hcw hbx HB5
    have HX5 := zH (HX.out.up HB5.out)
    have HW5 := zH hW5
    have Cell := zH (fun w' (h : Since W5 w') => (show (fun w' => w'.cell? ⟨w.heap.size, 0, none⟩ = some (.int .i64 gn) ∧ w'.cell? ⟨w.heap.size, 1, none⟩ = some (.slice a gv.length c) ∧ w'.cell? ⟨wr.heap.size, 0, none⟩ = some (.int .i64 xx.1) ∧ w'.cell? ⟨wr.heap.size, 0 + 1, none⟩ = some (.int .i64 xx.2) ∧ Since W5 w') w' from
     ⟨h.cell (p := ⟨w.heap.size, 0, none⟩) (lt_of_at hcw) (two hcw).1, h.cell (p := ⟨w.heap.size, 1, none⟩) (lt_of_at hcw) (two hcw).2, h.cell (p := ⟨wr.heap.size, 0, none⟩) hbx.lt hbx.four.1, h.cell (p := ⟨wr.heap.size, 0 + 1, none⟩) hbx.lt hbx.four.2.1, h⟩))
    clear hpc hcw0 hcw hbx hW5
    go_upto_region 6 with (fail)
    rw [HW5.out]
    have hg0 := (Since.refl W5).drew
    refine wp_region_held_drew (S := (fun w' => w'.cell? ⟨w.heap.size, 0, none⟩ = some (.int .i64 gn) ∧ w'.cell? ⟨w.heap.size, 1, none⟩ = some (.slice a gv.length c) ∧ w'.cell? ⟨wr.heap.size, 0, none⟩ = some (.int .i64 xx.1) ∧ w'.cell? ⟨wr.heap.size, 0 + 1, none⟩ = some (.int .i64 xx.2) ∧ Since W5 w')) (by kernel_rfl) ?_ (fun hHeld => ?_)
    ·
     exact Cell.out _ hg0
    refine tk1 0 ⟨some 18, .load 32 (.tmp 6), 32, "l11_payoff.go:87", #[], none⟩ ?_
    refine tk1 1 ⟨some 19, .load 26 (.tmp 2), 26, "l11_payoff.go:87", #[], none⟩ ?_
    refine tk1 2 ⟨some 20, .move (.tmp 5), 3, "l11_payoff.go:87", #[], none⟩ ?_
    refine tk1 3 ⟨some 21, .binOp .shl 3 (.const (Value.int IntKind.i64 1)) (.tmp 20) 3, 3, "l11_payoff.go:87", #[⟨2, .data⟩], none⟩ ?_
    try simp only [Act.put, zA, zB, zC]
    refine rd1 4 ⟨some 22, .call { callee := .value (.func 44), args := #[.tmp 19, .tmp 21], argTypes := #[26, 3] }, 3, "l11_payoff.go:87", #[⟨1, .data⟩, ⟨3, .data⟩], none⟩ fun K hK => ?_
    go_simp
    (go_at_call 44; refine (Hva.out _ (HX5.out.up hg0.low)).mono ?_; rintro e w6 ⟨rfl, hb6⟩; have hg6 := hg0.trans hb6)
    refine hK.out _ _ ?_ (fun hHeld => ?_)
    ·
     exact Cell.out _ hg6
    clear hK K
    try simp only [Act.put, zA, zB, zC]
    refine rd1 5 ⟨some 23, .call { callee := .value (.func 38), args := #[.tmp 22], argTypes := #[3] }, 32, "l11_payoff.go:87", #[⟨4, .data⟩, ⟨4, .chain⟩], none⟩ fun K hK => ?_
    go_simp
    (go_at_call 38; refine (impl_wholeRat z _).mono ?_; rintro e w7 ⟨rfl, hb7⟩; have hg7 := hg6.trans hb7)
    refine hK.out _ _ ?_ (fun hHeld => ?_)
    ·
     exact Cell.out _ hg7
    clear hK K
    try simp only [Act.put, zA, zB, zC]
    refine rd1 6 ⟨some 24, .call { callee := .value (.func 18), args := #[.tmp 18, .tmp 23], argTypes := #[32, 32] }, 3, "l11_payoff.go:87", #[⟨0, .data⟩, ⟨5, .data⟩, ⟨5, .chain⟩], none⟩ fun K hK => ?_
    go_simp
    (go_at_call 18; refine (Hc.out _).mono ?_; rintro e w8 ⟨rfl, hb8⟩; have hg8 := hg7.trans hb8)
    refine hK.out _ _ ?_ (fun hHeld => ?_)
    ·
     exact Cell.out _ hg8
    clear hK K
    refine tk1 7 ⟨some 25, .binOp .lss 3 (.tmp 24) (.const (Value.int IntKind.i64 0)) 3, 4, "l11_payoff.go:87", #[⟨6, .data⟩], none⟩ ?_
    try simp only [Act.put, zA, zB, zC]
    refine wpAnyH_done (by kernel_rfl) ?_ _
    have HB8 := zH (HB5.out.trans (hg8.low.mono HB5.out.size))
    clear Cell hg0 hg6 hg7 hg8 hb6 hb7 hb8 Hc Hva hsh q0 q1
    rcases hd : decide (q < 0) with _ | _
    ·
     have HA2 := zH (Hyes.out hd)
     have hd2 : ¬ q < 0 := of_decide_eq_false hd
     clear Hno Hyes
     go_wp2_with fail
     go_roundw
     case rel => exact ⟨k + 1, by omega, by go_num, HA2, HB8⟩
     case measure => simp [intOf]; omega
    ·
     have HR3 : Hid (false = r) := by show _ = _; rw [← HR2.out, Hno.out hd]
     have hd2 : q < 0 := of_decide_eq_true hd
     clear Hno Hyes
     go_wp2_with fail
     go_ret
     exact ⟨ret_bool HR3.out, HB.out.trans (HB8.out.mono hlo)⟩
   ·
    have n1 : ¬ (k : Int) < (xs.length : Int) := by omega
    have HR3 : Hid (true = r) := by show _ = _; rw [← HR2.out, show xs.length = k by omega]; exact hA.out.symm
    go_wp2_with fail
    go_ret
    exact ⟨ret_bool HR3.out, HB.out.trans (hB.out.mono hlo)⟩
end Go.Proofs.YtpidlmmpejoeaaaGreat
