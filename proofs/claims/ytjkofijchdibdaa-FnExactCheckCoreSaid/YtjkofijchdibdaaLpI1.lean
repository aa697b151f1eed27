/- impl.IsValidLP. -/
import Derived.Test.YtjkofijchdibdaaGLb
import Derived.Test.YtjkofijchdibdaaGRa
import Derived.Test.YtjkofijchdibdaaWiB
namespace Go.Proofs.Ytjkofijchdibdaa
open Go.RowKit
open Ve (R)
open Lp (P)
theorem small_within (l : List Int) : Lp.small l = Gm.within 5000 l := rfl
theorem impl_lpNumbers (B : Nat) (a : Option Addr) (c : Nat) (l : List Int) (hn : l.length ≤ 1048576) (g : Bool) (hg : Lp.small l = g) (w : World) (h1 : NumsIn B w a l) :
  Calls Try.prog 58 #[.slice a l.length c, .int .i64 5000] w fun e w' => e = .returned (.bool g) ∧ w = w' :=
 impl_areWithin B a c l 5000 (by decide) (by decide) hn g hg w h1
theorem vld_sizes {p : P} (h : ¬ (p.C.length ≤ 70 ∧ p.A.length ≤ 8 ∧ p.B.length = p.A.length)) : Lp.vldP p = false := by
 rw [Bool.eq_false_iff]
 intro h2
 have := Lp.vld_parts h2
 exact h ⟨this.2.1, this.2.2.1, this.2.2.2.1⟩
theorem vld_rest {p : P} (h : p.C.length ≤ 70 ∧ p.A.length ≤ 8 ∧ p.B.length = p.A.length) (hr : Lp.rows p = true) : Lp.vldP p = (Lp.small p.B && Ve.good p.C) := by
 unfold Lp.vldP
 rw [hr]
 simp [h.1, h.2.1, h.2.2]
set_option maxRecDepth 100000 in
set_option maxHeartbeats 1000000 in
theorem impl_IsValidLP (B : Nat) (a b c : Option Addr) (c1 c2 c3 : Nat) (p : P) (hn : LpFits p) (w : World) (hBw : B ≤ w.heap.size) (hz : LpIn B w a b c p) :
  Calls Try.prog 64 #[.agg #[.slice a p.A.length c1, .slice b p.B.length c2, .slice c p.C.length c3]] w fun e w' => e = .returned (.bool (Lp.vldP p)) ∧ Below w.heap.size w w' := by
 obtain ⟨g, hg⟩ : ∃ g, Lp.vldP p = g := ⟨_, rfl⟩
 rw [hg]
 have HN := zH hn
 have hb := (Below.refl w.heap.size w).alloc (Nat.le_refl _) (.cells #[.slice a p.A.length c1, .slice b p.B.length c2, .slice c p.C.length c3] 29)
 have hx := Tri.new w (.slice a p.A.length c1) (.slice b p.B.length c2) (.slice c p.C.length c3) 29
 have Hz := zH ((hz.mono hBw).below hb)
 have Hb := zH hb
 have Hx := zH hx
 have Hg := zH hg
 have hA := hn.A
 have hB := hn.B
 have hC := hn.C
 clear hz hn hb hx hg
 by_cases q1 : p.C.length ≤ 70
 ·
  have hq1 : decide ((p.C.length : Int) > 70) = false := by rw [decide_eq_false_iff_not]; omega
  by_cases q2 : p.A.length ≤ 8
  ·
   have hq2 : decide ((p.A.length : Int) > 8) = false := by rw [decide_eq_false_iff_not]; omega
   by_cases q3 : p.B.length = p.A.length
   ·
    have Hsz := zH (And.intro q1 (And.intro q2 q3))
    have hq3 : ((p.B.length : Int) != (p.A.length : Int)) = false := by rw [q3]; simp
    clear q3
    go_enter Try.func64, Try.ntmps64
    go_wp2_with fail
    go_loop [27] (fun i => ∃ k : Nat, k ≤ p.A.length ∧ i = .int .i64 k ∧ Hid (∀ j, j < k → rowOk p j = true)) (fun i => p.A.length - (intOf i).toNat)
    case atStart => exact ⟨0, Nat.zero_le _, rfl, fun j hj => absurd hj (by omega)⟩
    case round =>
     obtain ⟨k, hk, rfl, hOk⟩ := hrel
     by_cases hlt : k < p.A.length
     ·
      obtain ⟨b1, o1, a', c', rfl, hb1, hcell, hN⟩ := Hz.out.mA k hlt
      have HNr := zH hN
      have hrl := HN.out.row k hlt
      clear hN
      by_cases hl : (rw_ p.A k).length = p.C.length
      ·
       have hnl : (((rw_ p.A k).length : Int) != (p.C.length : Int)) = false := by rw [hl]; simp
       rcases hs : Lp.small (rw_ p.A k) with _ | _
       ·
        have Hr := zH (show false = g from (rows_bad hlt (by unfold rowOk; rw [hs]; simp)).symm.trans Hg.out)
        have Hs := zH hs
        clear hs hl
        go_wp2_with fail
        refine (impl_lpNumbers w.heap.size a' c' (rw_ p.A k) hrl false Hs.out _ HNr.out).mono ?_
        rintro e w1 ⟨rfl, rfl⟩
        go_wp2_with fail
        go_ret
        exact ⟨ret_bool Hr.out, Hb.out⟩
       ·
        have HOk2 : Hid (∀ j, j < k + 1 → rowOk p j = true) := fun j hj => by
         by_cases e : j = k
         ·
          subst e; unfold rowOk; rw [hs]; simp [hl]
         ·
          exact hOk.out j (by omega)
        have Hs := zH hs
        clear hs hl
        go_wp2_with fail
        refine (impl_lpNumbers w.heap.size a' c' (rw_ p.A k) hrl true Hs.out _ HNr.out).mono ?_
        rintro e w1 ⟨rfl, rfl⟩
        go_wp2_with fail
        go_round
        case rel => exact ⟨k + 1, by omega, by go_num, HOk2⟩
        case measure => simp [intOf]; omega
      ·
       obtain ⟨l1, l2⟩ := len_no hl
       have Hr := zH (show false = g from (rows_bad hlt (by unfold rowOk; simp [hl])).symm.trans Hg.out)
       go_wp2_with fail
       go_ret
       exact ⟨ret_bool Hr.out, Hb.out⟩
     ·
      have Hrest := zH ((vld_rest Hsz.out (rows_good fun j hj => hOk.out j (by omega))).symm.trans Hg.out)
      rcases q4 : Lp.small p.B with _ | _
      ·
       have Hr : Hid (false = g) := by show _ = _; rw [← Hrest.out, q4]; rfl
       have Q4 := zH q4
       clear q4
       go_wp2_with fail
       refine (impl_lpNumbers w.heap.size b c2 p.B hB false Q4.out _ Hz.out.mB).mono ?_
       rintro e w1 ⟨rfl, rfl⟩
       go_wp2_with fail
       go_ret
       exact ⟨ret_bool Hr.out, Hb.out⟩
      ·
       have Hr : Hid (Ve.good p.C = g) := by show _ = _; rw [← Hrest.out, q4]; rfl
       have Q4 := zH q4
       clear q4
       go_wp2_with fail
       refine (impl_lpNumbers w.heap.size b c2 p.B hB true Q4.out _ Hz.out.mB).mono ?_
       rintro e w1 ⟨rfl, rfl⟩
       go_wp2_with fail
       refine (impl_AllValid w.heap.size c c3 p.C hC _ Hb.out.size Hz.out.mC).mono ?_
       rintro e w1 ⟨rfl, hb1⟩
       have Hb1 := zH (Hb.out.trans (hb1.mono Hb.out.size))
       rw [Hr.out]
       clear hb1
       go_wp2_with fail
       go_ret
       exact ⟨rfl, Hb1.out⟩
   ·
    have Hr : Hid (false = g) := (vld_sizes fun h => q3 h.2.2).symm.trans Hg.out
    obtain ⟨l1, l2⟩ := len_no q3
    go_enter Try.func64, Try.ntmps64
    go_wp2_with fail
    go_ret
    exact ⟨ret_bool Hr.out, Hb.out⟩
  ·
   have Hr : Hid (false = g) := (vld_sizes fun h => q2 h.2.1).symm.trans Hg.out
   have hq2 : decide ((p.A.length : Int) > 8) = true := by rw [decide_eq_true_iff]; omega
   go_enter Try.func64, Try.ntmps64
   go_wp2_with fail
   go_ret
   exact ⟨ret_bool Hr.out, Hb.out⟩
 ·
  have Hr : Hid (false = g) := (vld_sizes fun h => q1 h.1).symm.trans Hg.out
  have hq1 : decide ((p.C.length : Int) > 70) = true := by rw [decide_eq_true_iff]; omega
  go_enter Try.func64, Try.ntmps64
  go_wp2_with fail
  go_ret
  exact ⟨ret_bool Hr.out, Hb.out⟩
end Go.Proofs.Ytjkofijchdibdaa
