/- spec.CheckLP, whole. -/
import Derived.Test.YtgnianjomjjfgaaLpK2
namespace Go.Proofs.Ytgnianjomjjfgaa
open Go.RowKit
open Ve (R)
open Lp (P Res)
theorem int_no {a b : Int} (h : a ≠ b) : (a == b) = false ∧ (b == a) = false := ⟨by rw [beq_eq_false_iff_ne]; exact h, by rw [beq_eq_false_iff_ne]; exact fun e => h e.symm⟩
set_option maxRecDepth 100000 in
set_option maxHeartbeats 4000000 in
theorem spec_CheckLP (B : Nat) (a b c ra rb rc : Option Addr) (c1 c2 c3 d1 d2 d3 : Nat) (p : P) (r : Res) (hn : LpFits p) (hf : ResFits r) (g : Bool) (hg : Lp.chk p r = g) (w : World) (hBw : B ≤ w.heap.size) (hz : LpIn B w a b c p) (hr : ResIn B w ra rb rc r) :
    Calls Try.prog 8 #[.agg #[.slice a p.A.length c1, .slice b p.B.length c2, .slice c p.C.length c3], resV ra rb rc d1 d2 d3 r] w fun e w' => e = .returned (.bool g) ∧ Below w.heap.size w w' := by
  obtain ⟨st, X, Y, Z, ⟨nu, de⟩, pv⟩ := r
  rw [show resV ra rb rc d1 d2 d3 ⟨st, X, Y, Z, (nu, de), pv⟩ = .agg #[.int .i64 st, .slice ra X.length d1, .slice rb Y.length d2, .slice rc Z.length d3, .int .i64 nu, .int .i64 de, .int .i64 pv] from rfl]
  rcases hvl : Lp.vldP p with _ | _
  · have Hr := Lib.hid (show false = g by rw [← hg]; unfold Lp.chk; rw [hvl]; rfl)
    have HX := Lib.hid (ChkBox.start w a b c ra rb rc c1 c2 c3 d1 d2 d3 p ⟨st, X, Y, Z, (nu, de), pv⟩ 28 32 hBw hz hr)
    have HV := Lib.hid (fun W (hB : w.heap.size ≤ W.heap.size) h => hvl ▸ spec_IsValidLP w.heap.size a b c c1 c2 c3 p hn W hB h)
    clear hz hr hg hvl hn hf
    go_enter Try.func8, Try.ntmps8
    go_wp2_with fail
    refine (HV.out _ HX.out.1.size HX.out.2.1).mono ?_
    rintro e w1 ⟨rfl, k1⟩
    have HX1 := Lib.hid (HX.out.up k1)
    clear k1
    go_wp2_with fail
    go_ret
    exact ⟨ret_bool Hr.out, HX1.out.1⟩
  · by_cases h2 : st = 2
    · subst h2
      exact spec_CheckLP_inf B a b c ra rb rc c1 c2 c3 d1 d2 d3 p X Y Z nu de pv hn hf hvl g (by rw [← hg]; unfold Lp.chk; rw [hvl]; rfl) w hBw hz hr
    · by_cases h3 : st = 3
      · subst h3
        exact spec_CheckLP_unb B a b c ra rb rc c1 c2 c3 d1 d2 d3 p X Y Z nu de pv hn hf hvl g (by rw [← hg]; unfold Lp.chk; rw [hvl]; rfl) w hBw hz hr
      · have HX := Lib.hid (ChkBox.start w a b c ra rb rc c1 c2 c3 d1 d2 d3 p ⟨st, X, Y, Z, (nu, de), pv⟩ 28 32 hBw hz hr)
        have HV := Lib.hid (fun W (hB : w.heap.size ≤ W.heap.size) h => hvl ▸ spec_IsValidLP w.heap.size a b c c1 c2 c3 p hn W hB h)
        by_cases h1 : st = 1
        · subst h1
          have Hop := Lib.hid (fun W (hB : w.heap.size ≤ W.heap.size) h h' => spec_l5Optimal w.heap.size a b c ra rb rc c1 c2 c3 d1 d2 d3 p ⟨1, X, Y, Z, (nu, de), pv⟩ hn hf hvl g (by rw [← hg]; unfold Lp.chk; rw [hvl]; rfl) W hB h h')
          clear hz hr hg hvl hn hf h2 h3
          go_enter Try.func8, Try.ntmps8
          go_wp2_with fail
          refine (HV.out _ HX.out.1.size HX.out.2.1).mono ?_
          rintro e w1 ⟨rfl, k1⟩
          have HX1 := Lib.hid (HX.out.up k1)
          obtain ⟨x0, x1, x2, _⟩ := HX1.out.2.2.2.1.cells
          obtain ⟨⟨r0, r1, r2, r3, r4, r5, r6⟩, _⟩ := seven HX1.out.2.2.2.2
          clear k1
          go_wp2_with fail
          refine (Hop.out _ HX1.out.1.size HX1.out.2.1 HX1.out.2.2.1).mono ?_
          rintro e w2 ⟨rfl, k2⟩
          have HX2 := Lib.hid (HX1.out.up k2)
          clear k2
          go_wp2_with fail
          go_ret
          exact ⟨rfl, HX2.out.1⟩
        · have Hr := Lib.hid (show false = g by rw [← hg]; unfold Lp.chk; rw [hvl]; simp [h1, h2, h3])
          obtain ⟨a1, a2⟩ := int_no h1
          obtain ⟨b1, b2⟩ := int_no h2
          obtain ⟨e1, e2⟩ := int_no h3
          clear hz hr hg hvl hn hf h1 h2 h3
          go_enter Try.func8, Try.ntmps8
          go_wp2_with fail
          refine (HV.out _ HX.out.1.size HX.out.2.1).mono ?_
          rintro e w1 ⟨rfl, k1⟩
          have HX1 := Lib.hid (HX.out.up k1)
          obtain ⟨x0, x1, x2, _⟩ := HX1.out.2.2.2.1.cells
          obtain ⟨⟨r0, r1, r2, r3, r4, r5, r6⟩, _⟩ := seven HX1.out.2.2.2.2
          clear k1
          go_wp2_with fail
          go_ret
          exact ⟨ret_bool Hr.out, HX1.out.1⟩
end Go.Proofs.Ytgnianjomjjfgaa
