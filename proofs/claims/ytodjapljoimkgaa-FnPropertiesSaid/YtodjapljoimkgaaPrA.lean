/- The specification's faults and properties of games (prA.py). -/
import Derived.Test.YtodjapljoimkgaaGmB
import Derived.Test.YtodjapljoimkgaaPrM
import Derived.Test.YtodjapljoimkgaaCoB
namespace Go.Proofs.Ytodjapljoimkgaa
open Go.RowKit
open Gm (G)
theorem ret3 {A B a b : Int} {c bad : Bool} (h : (a, b, c) = (A, B, bad)) : Ending.returned (.tuple #[.int .i64 a, .int .i64 b, .bool c]) = .returned (.tuple #[.int .i64 A, .int .i64 B, .bool bad]) := by
  injection h with h1 h2
  injection h2 with h2 h3
  rw [h1, h2, h3]
theorem nums_at {B : Nat} {w : World} {bb o : Nat} {xs : List Int} (h : NumsIn B w (some ⟨bb, o, none⟩) xs) {k : Nat} (hk : k < xs.length) : w.cell? ⟨bb, o + k, none⟩ = some (.int .i64 (xs.getD k 0)) := by
  obtain ⟨b1, o1, e, _, hc⟩ := h k hk
  injection e with e
  injection e with e1 e2
  subst e1 e2
  exact hc
set_option maxRecDepth 100000 in
set_option maxHeartbeats 4000000 in
theorem spec_l10Fault1 {w : World} {x y : Value} {g : G} {A B : Int} {bad : Bool} (hF : Pr.fault Pr.okM g = (A, B, bad)) (h : GmC w x y g) (hf : GmOk g) :
    Calls Try.prog 46 #[.agg #[x, y], .int .i64 1] w fun e w' => e = .returned (.tuple #[.int .i64 A, .int .i64 B, .bool bad]) ∧ Below w.heap.size w w' := by
  have HX := Lib.hid (gm_box h 26).1
  have HBl := Lib.hid (gm_box h 26).2
  have HC := Lib.hid (CellsAt.new w #[x, y] 26)
  obtain ⟨W, hW⟩ : ∃ W, W = w.alloc (.cells #[x, y] 26) := ⟨_, rfl⟩
  have hws : W.heap.size = w.heap.size + 1 := by rw [hW, size1]
  rw [← hW] at HX HBl HC
  have HF := Lib.hid hf
  have HS := Lib.hid hws
  have HW := Lib.hid hW
  clear h hf hws hW
  rcases hv : Gm.vld g with _ | _
  · have HV := Lib.hid hv
    have Hr := Lib.hid ((Pr.fault_no hv).symm.trans hF)
    have hx0 := HX.out
    obtain ⟨a, c, rfl, rfl, _⟩ := hx0
    obtain ⟨m0, m1⟩ := two HC.out
    have hlf := HF.out.1
    generalize hN : g.v.length = N at *
    clear hv hF hN
    go_enter Try.func46, Try.ntmps46
    go_wp2_with fail
    rw [← HW.out]
    clear HW
    go_loopw [8] (fun i wr => i = .int .i64 0 ∧ wr = W) (fun _ _ => 0)
    case atStart => exact ⟨rfl, rfl⟩
    case round =>
      obtain ⟨rfl, rfl⟩ := hrel
      by_cases h0 : 0 < N
      · go_wp2_with fail
        refine (spec_IsValidGame false HV.out HX.out HF.out).mono ?_
        rintro e w1 ⟨rfl, k⟩
        have HB1 := Lib.hid (HBl.out.trans (k.mono HBl.out.size))
        clear k
        go_wp2_with fail
        go_ret3
        exact ⟨ret3 Hr.out, HB1.out⟩
      · go_wp2_with fail
        go_ret3
        exact ⟨ret3 Hr.out, HBl.out⟩
  · have HV := Lib.hid hv
    have HFl := Lib.hid ((Pr.fault_yes (f := Pr.okM) hv).symm.trans hF)
    have hl := Gm.vld_len hv
    have hx0 := HX.out
    obtain ⟨a, c, rfl, rfl, hi⟩ := hx0
    obtain ⟨bb, o, rfl, hbb, _⟩ := hi 0 (by omega)
    obtain ⟨m0, m1⟩ := two HC.out
    have HI := Lib.hid hi
    have HGood := Lib.hid (fun j (hj : j < g.v.length) => Pr.good_at hv hj)
    have HU := Lib.hid (fun i j (hi : i < g.v.length) (hj : j < g.v.length) => Pr.uni_at hv hi hj)
    have HO := Lib.hid (fun i j (hi : i < g.v.length) (hj : j < g.v.length) => Pr.ovl_at hv hi hj)
    have HAt := Lib.hid (fun j (hj : j < g.v.length) => Gm.vld_at hv hj)
    have HNm := Lib.hid (fun (wr : World) (hb : Below W.heap.size W wr) j (hj : j < g.v.length) => nums_at (HI.out.below hb) hj)
    have HLo := Lib.hid hl
    obtain ⟨N, hN⟩ : ∃ N, g.v.length = N := ⟨_, rfl⟩
    rw [hN] at HFl hl HGood HU HO HAt HNm m1 HC HW
    have HX1 : Hid (GmC W (.int .i64 g.n) (.slice (some ⟨bb, o, none⟩) N c) g) := by rw [← hN]; exact HX.out
    rw [hN]
    replace HX := HX1
    clear hv hF hN hi HX1 HI hbb
    go_enter Try.func46, Try.ntmps46
    go_wp2_with fail
    rw [← HW.out]
    clear HW
    go_loopw [8] (fun i wr => ∃ p : Nat, p ≤ N ∧ i = .int .i64 p ∧ Hid (Below W.heap.size W wr) ∧ Hid (∀ c, c < p → ∀ d, d < N → Pr.okM g c d = true)) (fun i _ => N - (intOf i).toNat)
    case atStart => exact ⟨0, Nat.zero_le _, rfl, Below.refl _ _, fun c hc => absurd hc (by omega)⟩
    case round =>
      obtain ⟨p, hp, rfl, hB, hA⟩ := hrel
      by_cases hlt : p < N
      · obtain ⟨m2, m3⟩ := two (HC.out.below hB.out)
        go_wp2_with fail
        refine (spec_IsValidGame true HV.out (HX.out.up hB.out) HF.out).mono ?_
        rintro e w1 ⟨rfl, k⟩
        have HB1 := Lib.hid (hB.out.trans (k.mono hB.out.size))
        clear k m2 m3
        go_wp2_with fail
        go_loopw [9] (fun i wr => ∃ q : Nat, q ≤ N ∧ i = .int .i64 q ∧ Hid (Below W.heap.size W wr) ∧ Hid (∀ d, d < q → Pr.okM g p d = true)) (fun i _ => N - (intOf i).toNat)
        case atStart => exact ⟨0, Nat.zero_le _, rfl, HB1, fun d hd => absurd hd (by omega)⟩
        case round =>
          obtain ⟨q, hq, rfl, hB2, hA2⟩ := hrel
          clear HB1
          by_cases hlq : q < N
          · obtain ⟨m2, m3⟩ := two (HC.out.below hB2.out)
            have c1 := HNm.out _ hB2.out p hlt
            have c2 := HNm.out _ hB2.out q hlq
            have b1 := HAt.out p hlt
            have b2 := HAt.out q hlq
            have hgp := HGood.out p hlt
            have hgq := HGood.out q hlq
            have hsub : subR (p : Int) (q : Int) = Co.sub (p : Int) (q : Int) 5 := by unfold subR; rw [hgp, hgq]; rfl
            rcases hs : Co.sub (p : Int) (q : Int) 5 with _ | _
            · have Hs := Lib.hid (fun W' => (spec_IsSubset (p : Int) (q : Int) (by omega) (by omega) W').mono fun e w' h => (show e = .returned (.bool false) ∧ w' = W' from ⟨by rw [h.1, hsub, hs], h.2.symm⟩))
              have hok : Pr.okM g p q = true := by unfold Pr.okM; rw [hs]; rfl
              have HA3 : Hid (∀ d, d < q + 1 → Pr.okM g p d = true) := fun d hd => by
                by_cases e : d = q
                · subst e; exact hok
                · exact hA2.out d (by omega)
              clear hs hsub hok hgp hgq
              generalize g.v.getD p 0 = X at *
              generalize g.v.getD q 0 = Y at *
              go_wp2_with fail
              go_quiet (first | (go_at_call 66; exact Calls.quiet_of_same (Hs.out _)))
              go_wp2_with fail
              go_roundw
              case rel => exact ⟨q + 1, by omega, by go_num, below_drewN hB2.out nq, HA3⟩
              case measure => simp [intOf]; omega
            · have Hs := Lib.hid (fun W' => (spec_IsSubset (p : Int) (q : Int) (by omega) (by omega) W').mono fun e w' h => (show e = .returned (.bool true) ∧ w' = W' from ⟨by rw [h.1, hsub, hs], h.2.symm⟩))
              by_cases hgt : g.v.getD p 0 > g.v.getD q 0
              · have hok : Pr.okM g p q = false := by unfold Pr.okM Pr.at'; rw [hs, decide_eq_false (by omega)]; rfl
                have hd := decide_eq_true hgt
                have Hr := Lib.hid ((Pr.flt_hit (f := Pr.okM g) hlt hlq hok hA.out hA2.out).symm.trans HFl.out)
                clear hs hsub hok hgp hgq hgt
                generalize g.v.getD p 0 = X at *
                generalize g.v.getD q 0 = Y at *
                go_wp2_with fail
                go_quiet (first | (go_at_call 66; exact Calls.quiet_of_same (Hs.out _)))
                go_wp2_with fail
                go_ret3
                exact ⟨ret3 Hr.out, below_drewN (HBl.out.trans (hB2.out.mono HBl.out.size)) nq⟩
              · have hok : Pr.okM g p q = true := by unfold Pr.okM Pr.at'; rw [hs, decide_eq_true (by omega)]; rfl
                have hd := decide_eq_false hgt
                have HA3 : Hid (∀ d, d < q + 1 → Pr.okM g p d = true) := fun d hd => by
                  by_cases e : d = q
                  · subst e; exact hok
                  · exact hA2.out d (by omega)
                clear hs hsub hok hgp hgq hgt
                generalize g.v.getD p 0 = X at *
                generalize g.v.getD q 0 = Y at *
                go_wp2_with fail
                go_quiet (first | (go_at_call 66; exact Calls.quiet_of_same (Hs.out _)))
                go_wp2_with fail
                go_roundw
                case rel => exact ⟨q + 1, by omega, by go_num, below_drewN hB2.out nq, HA3⟩
                case measure => simp [intOf]; omega
          · have HA3 : Hid (∀ c, c < p + 1 → ∀ d, d < N → Pr.okM g c d = true) := fun c hc d hd => by
              by_cases e : c = p
              · subst e; exact hA2.out d (by omega)
              · exact hA.out c (by omega) d hd
            go_wp2_with fail
            go_roundw
            case rel => exact ⟨p + 1, by omega, by go_num, hB2, HA3⟩
            case measure => simp [intOf]; omega
      · have Hr := Lib.hid ((Pr.flt_none (f := Pr.okM g) (fun c hc d hd => hA.out c (by omega) d hd)).symm.trans HFl.out)
        go_wp2_with fail
        go_ret3
        exact ⟨ret3 Hr.out, HBl.out.trans (hB.out.mono HBl.out.size)⟩

set_option maxRecDepth 100000 in
set_option maxHeartbeats 4000000 in
theorem spec_l10Fault2 {w : World} {x y : Value} {g : G} {A B : Int} {bad : Bool} (hF : Pr.fault Pr.okS g = (A, B, bad)) (h : GmC w x y g) (hf : GmOk g) :
    Calls Try.prog 46 #[.agg #[x, y], .int .i64 2] w fun e w' => e = .returned (.tuple #[.int .i64 A, .int .i64 B, .bool bad]) ∧ Below w.heap.size w w' := by
  have HX := Lib.hid (gm_box h 26).1
  have HBl := Lib.hid (gm_box h 26).2
  have HC := Lib.hid (CellsAt.new w #[x, y] 26)
  obtain ⟨W, hW⟩ : ∃ W, W = w.alloc (.cells #[x, y] 26) := ⟨_, rfl⟩
  have hws : W.heap.size = w.heap.size + 1 := by rw [hW, size1]
  rw [← hW] at HX HBl HC
  have HF := Lib.hid hf
  have HS := Lib.hid hws
  have HW := Lib.hid hW
  clear h hf hws hW
  rcases hv : Gm.vld g with _ | _
  · have HV := Lib.hid hv
    have Hr := Lib.hid ((Pr.fault_no hv).symm.trans hF)
    have hx0 := HX.out
    obtain ⟨a, c, rfl, rfl, _⟩ := hx0
    obtain ⟨m0, m1⟩ := two HC.out
    have hlf := HF.out.1
    generalize hN : g.v.length = N at *
    clear hv hF hN
    go_enter Try.func46, Try.ntmps46
    go_wp2_with fail
    rw [← HW.out]
    clear HW
    go_loopw [8] (fun i wr => i = .int .i64 0 ∧ wr = W) (fun _ _ => 0)
    case atStart => exact ⟨rfl, rfl⟩
    case round =>
      obtain ⟨rfl, rfl⟩ := hrel
      by_cases h0 : 0 < N
      · go_wp2_with fail
        refine (spec_IsValidGame false HV.out HX.out HF.out).mono ?_
        rintro e w1 ⟨rfl, k⟩
        have HB1 := Lib.hid (HBl.out.trans (k.mono HBl.out.size))
        clear k
        go_wp2_with fail
        go_ret3
        exact ⟨ret3 Hr.out, HB1.out⟩
      · go_wp2_with fail
        go_ret3
        exact ⟨ret3 Hr.out, HBl.out⟩
  · have HV := Lib.hid hv
    have HFl := Lib.hid ((Pr.fault_yes (f := Pr.okS) hv).symm.trans hF)
    have hl := Gm.vld_len hv
    have hx0 := HX.out
    obtain ⟨a, c, rfl, rfl, hi⟩ := hx0
    obtain ⟨bb, o, rfl, hbb, _⟩ := hi 0 (by omega)
    obtain ⟨m0, m1⟩ := two HC.out
    have HI := Lib.hid hi
    have HGood := Lib.hid (fun j (hj : j < g.v.length) => Pr.good_at hv hj)
    have HU := Lib.hid (fun i j (hi : i < g.v.length) (hj : j < g.v.length) => Pr.uni_at hv hi hj)
    have HO := Lib.hid (fun i j (hi : i < g.v.length) (hj : j < g.v.length) => Pr.ovl_at hv hi hj)
    have HAt := Lib.hid (fun j (hj : j < g.v.length) => Gm.vld_at hv hj)
    have HNm := Lib.hid (fun (wr : World) (hb : Below W.heap.size W wr) j (hj : j < g.v.length) => nums_at (HI.out.below hb) hj)
    have HLo := Lib.hid hl
    obtain ⟨N, hN⟩ : ∃ N, g.v.length = N := ⟨_, rfl⟩
    rw [hN] at HFl hl HGood HU HO HAt HNm m1 HC HW
    have HX1 : Hid (GmC W (.int .i64 g.n) (.slice (some ⟨bb, o, none⟩) N c) g) := by rw [← hN]; exact HX.out
    rw [hN]
    replace HX := HX1
    clear hv hF hN hi HX1 HI hbb
    go_enter Try.func46, Try.ntmps46
    go_wp2_with fail
    rw [← HW.out]
    clear HW
    go_loopw [8] (fun i wr => ∃ p : Nat, p ≤ N ∧ i = .int .i64 p ∧ Hid (Below W.heap.size W wr) ∧ Hid (∀ c, c < p → ∀ d, d < N → Pr.okS g c d = true)) (fun i _ => N - (intOf i).toNat)
    case atStart => exact ⟨0, Nat.zero_le _, rfl, Below.refl _ _, fun c hc => absurd hc (by omega)⟩
    case round =>
      obtain ⟨p, hp, rfl, hB, hA⟩ := hrel
      by_cases hlt : p < N
      · obtain ⟨m2, m3⟩ := two (HC.out.below hB.out)
        go_wp2_with fail
        refine (spec_IsValidGame true HV.out (HX.out.up hB.out) HF.out).mono ?_
        rintro e w1 ⟨rfl, k⟩
        have HB1 := Lib.hid (hB.out.trans (k.mono hB.out.size))
        clear k m2 m3
        go_wp2_with fail
        go_loopw [9] (fun i wr => ∃ q : Nat, q ≤ N ∧ i = .int .i64 q ∧ Hid (Below W.heap.size W wr) ∧ Hid (∀ d, d < q → Pr.okS g p d = true)) (fun i _ => N - (intOf i).toNat)
        case atStart => exact ⟨0, Nat.zero_le _, rfl, HB1, fun d hd => absurd hd (by omega)⟩
        case round =>
          obtain ⟨q, hq, rfl, hB2, hA2⟩ := hrel
          clear HB1
          by_cases hlq : q < N
          · obtain ⟨m2, m3⟩ := two (HC.out.below hB2.out)
            have c1 := HNm.out _ hB2.out p hlt
            have c2 := HNm.out _ hB2.out q hlq
            have b1 := HAt.out p hlt
            have b2 := HAt.out q hlq
            have hgp := HGood.out p hlt
            have hgq := HGood.out q hlq
            obtain ⟨u, hu, hul⟩ := HU.out p q hlt hlq
            obtain ⟨v, hv2, hvl⟩ := HO.out p q hlt hlq
            have c3 := HNm.out _ hB2.out u hul
            have c4 := HNm.out _ hB2.out v hvl
            have b3 := HAt.out u hul
            have b4 := HAt.out v hvl
            have Ho := Lib.hid (fun W' => (spec_Overlap (p : Int) (q : Int) hgp hgq W').mono fun _ w' h => (show _ ∧ w' = W' from ⟨h.1, h.2.symm⟩))
            rw [hv2] at Ho
            have Hu := Lib.hid (fun W' => (spec_Union (p : Int) (q : Int) hgp hgq W').mono fun _ w' h => (show _ ∧ w' = W' from ⟨h.1, h.2.symm⟩))
            rw [hu] at Hu
            by_cases h0 : v = 0
            · subst h0
              by_cases hgt : g.v.getD p 0 + g.v.getD q 0 > g.v.getD u 0
              · have hok : Pr.okS g p q = false := by unfold Pr.okS Pr.at'; rw [hv2, hu, Int.toNat_natCast, decide_eq_false (p := g.v.getD p 0 + g.v.getD q 0 ≤ g.v.getD u 0) (by omega)]; rfl
                have hd := decide_eq_true hgt
                have Hr := Lib.hid ((Pr.flt_hit (f := Pr.okS g) hlt hlq hok hA.out hA2.out).symm.trans HFl.out)
                clear hok hgp hgq hgt hu hv2 c4 b4
                generalize g.v.getD p 0 = X at *
                generalize g.v.getD q 0 = Y at *
                generalize g.v.getD u 0 = Z at *
                go_wp2_with fail
                go_quiet (first | (go_at_call 67; exact Calls.quiet_of_same (Ho.out _)) | (go_at_call 68; exact Calls.quiet_of_same (Hu.out _)))
                go_wp2_with fail
                go_ret3
                exact ⟨ret3 Hr.out, below_drewN (HBl.out.trans (hB2.out.mono HBl.out.size)) nq⟩
              · have hok : Pr.okS g p q = true := by unfold Pr.okS Pr.at'; rw [hv2, hu, Int.toNat_natCast, decide_eq_true (p := g.v.getD p 0 + g.v.getD q 0 ≤ g.v.getD u 0) (by omega)]; simp
                have hd := decide_eq_false hgt
                have HA3 : Hid (∀ d, d < q + 1 → Pr.okS g p d = true) := fun d hd => by
                  by_cases e : d = q
                  · subst e; exact hok
                  · exact hA2.out d (by omega)
                clear hok hgp hgq hgt hu hv2 c4 b4
                generalize g.v.getD p 0 = X at *
                generalize g.v.getD q 0 = Y at *
                generalize g.v.getD u 0 = Z at *
                go_wp2_with fail
                go_quiet (first | (go_at_call 67; exact Calls.quiet_of_same (Ho.out _)) | (go_at_call 68; exact Calls.quiet_of_same (Hu.out _)))
                go_wp2_with fail
                go_roundw
                case rel => exact ⟨q + 1, by omega, by go_num, below_drewN hB2.out nq, HA3⟩
                case measure => simp [intOf]; omega
            · have hok : Pr.okS g p q = true := by unfold Pr.okS; rw [hv2, decide_eq_false (p := (v : Int) = 0) (by omega)]; rfl
              have hne : ((v : Int) == 0) = false := by rw [beq_eq_false_iff_ne]; omega
              have HA3 : Hid (∀ d, d < q + 1 → Pr.okS g p d = true) := fun d hd => by
                by_cases e : d = q
                · subst e; exact hok
                · exact hA2.out d (by omega)
              clear hok hgp hgq hu hv2 h0 c4 b4
              generalize g.v.getD p 0 = X at *
              generalize g.v.getD q 0 = Y at *
              generalize g.v.getD u 0 = Z at *
              go_wp2_with fail
              go_quiet (first | (go_at_call 67; exact Calls.quiet_of_same (Ho.out _)) | (go_at_call 68; exact Calls.quiet_of_same (Hu.out _)))
              go_wp2_with fail
              go_roundw
              case rel => exact ⟨q + 1, by omega, by go_num, below_drewN hB2.out nq, HA3⟩
              case measure => simp [intOf]; omega
          · have HA3 : Hid (∀ c, c < p + 1 → ∀ d, d < N → Pr.okS g c d = true) := fun c hc d hd => by
              by_cases e : c = p
              · subst e; exact hA2.out d (by omega)
              · exact hA.out c (by omega) d hd
            go_wp2_with fail
            go_roundw
            case rel => exact ⟨p + 1, by omega, by go_num, hB2, HA3⟩
            case measure => simp [intOf]; omega
      · have Hr := Lib.hid ((Pr.flt_none (f := Pr.okS g) (fun c hc d hd => hA.out c (by omega) d hd)).symm.trans HFl.out)
        go_wp2_with fail
        go_ret3
        exact ⟨ret3 Hr.out, HBl.out.trans (hB.out.mono HBl.out.size)⟩

set_option maxRecDepth 100000 in
set_option maxHeartbeats 4000000 in
theorem spec_l10Fault3 {w : World} {x y : Value} {g : G} {A B : Int} {bad : Bool} (hF : Pr.fault Pr.okC g = (A, B, bad)) (h : GmC w x y g) (hf : GmOk g) :
    Calls Try.prog 46 #[.agg #[x, y], .int .i64 3] w fun e w' => e = .returned (.tuple #[.int .i64 A, .int .i64 B, .bool bad]) ∧ Below w.heap.size w w' := by
  have HX := Lib.hid (gm_box h 26).1
  have HBl := Lib.hid (gm_box h 26).2
  have HC := Lib.hid (CellsAt.new w #[x, y] 26)
  obtain ⟨W, hW⟩ : ∃ W, W = w.alloc (.cells #[x, y] 26) := ⟨_, rfl⟩
  have hws : W.heap.size = w.heap.size + 1 := by rw [hW, size1]
  rw [← hW] at HX HBl HC
  have HF := Lib.hid hf
  have HS := Lib.hid hws
  have HW := Lib.hid hW
  clear h hf hws hW
  rcases hv : Gm.vld g with _ | _
  · have HV := Lib.hid hv
    have Hr := Lib.hid ((Pr.fault_no hv).symm.trans hF)
    have hx0 := HX.out
    obtain ⟨a, c, rfl, rfl, _⟩ := hx0
    obtain ⟨m0, m1⟩ := two HC.out
    have hlf := HF.out.1
    generalize hN : g.v.length = N at *
    clear hv hF hN
    go_enter Try.func46, Try.ntmps46
    go_wp2_with fail
    rw [← HW.out]
    clear HW
    go_loopw [8] (fun i wr => i = .int .i64 0 ∧ wr = W) (fun _ _ => 0)
    case atStart => exact ⟨rfl, rfl⟩
    case round =>
      obtain ⟨rfl, rfl⟩ := hrel
      by_cases h0 : 0 < N
      · go_wp2_with fail
        refine (spec_IsValidGame false HV.out HX.out HF.out).mono ?_
        rintro e w1 ⟨rfl, k⟩
        have HB1 := Lib.hid (HBl.out.trans (k.mono HBl.out.size))
        clear k
        go_wp2_with fail
        go_ret3
        exact ⟨ret3 Hr.out, HB1.out⟩
      · go_wp2_with fail
        go_ret3
        exact ⟨ret3 Hr.out, HBl.out⟩
  · have HV := Lib.hid hv
    have HFl := Lib.hid ((Pr.fault_yes (f := Pr.okC) hv).symm.trans hF)
    have hl := Gm.vld_len hv
    have hx0 := HX.out
    obtain ⟨a, c, rfl, rfl, hi⟩ := hx0
    obtain ⟨bb, o, rfl, hbb, _⟩ := hi 0 (by omega)
    obtain ⟨m0, m1⟩ := two HC.out
    have HI := Lib.hid hi
    have HGood := Lib.hid (fun j (hj : j < g.v.length) => Pr.good_at hv hj)
    have HU := Lib.hid (fun i j (hi : i < g.v.length) (hj : j < g.v.length) => Pr.uni_at hv hi hj)
    have HO := Lib.hid (fun i j (hi : i < g.v.length) (hj : j < g.v.length) => Pr.ovl_at hv hi hj)
    have HAt := Lib.hid (fun j (hj : j < g.v.length) => Gm.vld_at hv hj)
    have HNm := Lib.hid (fun (wr : World) (hb : Below W.heap.size W wr) j (hj : j < g.v.length) => nums_at (HI.out.below hb) hj)
    have HLo := Lib.hid hl
    obtain ⟨N, hN⟩ : ∃ N, g.v.length = N := ⟨_, rfl⟩
    rw [hN] at HFl hl HGood HU HO HAt HNm m1 HC HW
    have HX1 : Hid (GmC W (.int .i64 g.n) (.slice (some ⟨bb, o, none⟩) N c) g) := by rw [← hN]; exact HX.out
    rw [hN]
    replace HX := HX1
    clear hv hF hN hi HX1 HI hbb
    go_enter Try.func46, Try.ntmps46
    go_wp2_with fail
    rw [← HW.out]
    clear HW
    go_loopw [8] (fun i wr => ∃ p : Nat, p ≤ N ∧ i = .int .i64 p ∧ Hid (Below W.heap.size W wr) ∧ Hid (∀ c, c < p → ∀ d, d < N → Pr.okC g c d = true)) (fun i _ => N - (intOf i).toNat)
    case atStart => exact ⟨0, Nat.zero_le _, rfl, Below.refl _ _, fun c hc => absurd hc (by omega)⟩
    case round =>
      obtain ⟨p, hp, rfl, hB, hA⟩ := hrel
      by_cases hlt : p < N
      · obtain ⟨m2, m3⟩ := two (HC.out.below hB.out)
        go_wp2_with fail
        refine (spec_IsValidGame true HV.out (HX.out.up hB.out) HF.out).mono ?_
        rintro e w1 ⟨rfl, k⟩
        have HB1 := Lib.hid (hB.out.trans (k.mono hB.out.size))
        clear k m2 m3
        go_wp2_with fail
        go_loopw [9] (fun i wr => ∃ q : Nat, q ≤ N ∧ i = .int .i64 q ∧ Hid (Below W.heap.size W wr) ∧ Hid (∀ d, d < q → Pr.okC g p d = true)) (fun i _ => N - (intOf i).toNat)
        case atStart => exact ⟨0, Nat.zero_le _, rfl, HB1, fun d hd => absurd hd (by omega)⟩
        case round =>
          obtain ⟨q, hq, rfl, hB2, hA2⟩ := hrel
          clear HB1
          by_cases hlq : q < N
          · obtain ⟨m2, m3⟩ := two (HC.out.below hB2.out)
            have c1 := HNm.out _ hB2.out p hlt
            have c2 := HNm.out _ hB2.out q hlq
            have b1 := HAt.out p hlt
            have b2 := HAt.out q hlq
            have hgp := HGood.out p hlt
            have hgq := HGood.out q hlq
            obtain ⟨u, hu, hul⟩ := HU.out p q hlt hlq
            obtain ⟨v, hv2, hvl⟩ := HO.out p q hlt hlq
            have c3 := HNm.out _ hB2.out u hul
            have c4 := HNm.out _ hB2.out v hvl
            have b3 := HAt.out u hul
            have b4 := HAt.out v hvl
            have Ho := Lib.hid (fun W' => (spec_Overlap (p : Int) (q : Int) hgp hgq W').mono fun _ w' h => (show _ ∧ w' = W' from ⟨h.1, h.2.symm⟩))
            rw [hv2] at Ho
            have Hu := Lib.hid (fun W' => (spec_Union (p : Int) (q : Int) hgp hgq W').mono fun _ w' h => (show _ ∧ w' = W' from ⟨h.1, h.2.symm⟩))
            rw [hu] at Hu
            by_cases hgt : g.v.getD p 0 + g.v.getD q 0 > g.v.getD u 0 + g.v.getD v 0
            · have hok : Pr.okC g p q = false := by unfold Pr.okC Pr.at'; rw [hv2, hu, Int.toNat_natCast, Int.toNat_natCast, decide_eq_false (by omega)]
              have hd := decide_eq_true hgt
              have Hr := Lib.hid ((Pr.flt_hit (f := Pr.okC g) hlt hlq hok hA.out hA2.out).symm.trans HFl.out)
              clear hok hgp hgq hgt hu hv2
              generalize g.v.getD p 0 = X at *
              generalize g.v.getD q 0 = Y at *
              generalize g.v.getD u 0 = Z at *
              generalize g.v.getD v 0 = V at *
              go_wp2_with fail
              go_quiet (first | (go_at_call 67; exact Calls.quiet_of_same (Ho.out _)) | (go_at_call 68; exact Calls.quiet_of_same (Hu.out _)))
              go_wp2_with fail
              go_ret3
              exact ⟨ret3 Hr.out, below_drewN (HBl.out.trans (hB2.out.mono HBl.out.size)) nq⟩
            · have hok : Pr.okC g p q = true := by unfold Pr.okC Pr.at'; rw [hv2, hu, Int.toNat_natCast, Int.toNat_natCast, decide_eq_true (by omega)]
              have hd := decide_eq_false hgt
              have HA3 : Hid (∀ d, d < q + 1 → Pr.okC g p d = true) := fun d hd => by
                by_cases e : d = q
                · subst e; exact hok
                · exact hA2.out d (by omega)
              clear hok hgp hgq hgt hu hv2
              generalize g.v.getD p 0 = X at *
              generalize g.v.getD q 0 = Y at *
              generalize g.v.getD u 0 = Z at *
              generalize g.v.getD v 0 = V at *
              go_wp2_with fail
              go_quiet (first | (go_at_call 67; exact Calls.quiet_of_same (Ho.out _)) | (go_at_call 68; exact Calls.quiet_of_same (Hu.out _)))
              go_wp2_with fail
              go_roundw
              case rel => exact ⟨q + 1, by omega, by go_num, below_drewN hB2.out nq, HA3⟩
              case measure => simp [intOf]; omega
          · have HA3 : Hid (∀ c, c < p + 1 → ∀ d, d < N → Pr.okC g c d = true) := fun c hc d hd => by
              by_cases e : c = p
              · subst e; exact hA2.out d (by omega)
              · exact hA.out c (by omega) d hd
            go_wp2_with fail
            go_roundw
            case rel => exact ⟨p + 1, by omega, by go_num, hB2, HA3⟩
            case measure => simp [intOf]; omega
      · have Hr := Lib.hid ((Pr.flt_none (f := Pr.okC g) (fun c hc d hd => hA.out c (by omega) d hd)).symm.trans HFl.out)
        go_wp2_with fail
        go_ret3
        exact ⟨ret3 Hr.out, HBl.out.trans (hB.out.mono HBl.out.size)⟩

set_option maxRecDepth 100000 in
set_option maxHeartbeats 1000000 in
theorem spec_MonotoneFault {w : World} {x y : Value} {g : G} {A B : Int} {bad : Bool} (hF : Pr.fault Pr.okM g = (A, B, bad)) (h : GmC w x y g) (hf : GmOk g) :
    Calls Try.prog 22 #[.agg #[x, y]] w fun e w' => e = .returned (.tuple #[.int .i64 A, .int .i64 B, .bool bad]) ∧ Below w.heap.size w w' := by
  have HX := Lib.hid (gm_box h 26).1
  have HBl := Lib.hid (gm_box h 26).2
  have HF := Lib.hid hF
  obtain ⟨m0, m1⟩ := two (CellsAt.new w #[x, y] 26)
  clear h hF
  go_enter Try.func22, Try.ntmps22
  go_wp2_with fail
  refine (spec_l10Fault1 HF.out HX.out hf).mono ?_
  rintro e w1 ⟨rfl, k⟩
  have HB1 := Lib.hid (HBl.out.trans (k.mono HBl.out.size))
  clear k m0 m1
  go_wp2_with fail
  go_ret3
  exact ⟨rfl, HB1.out⟩
set_option maxRecDepth 100000 in
set_option maxHeartbeats 1000000 in
theorem spec_l10Has1 {w : World} {x y : Value} {g : G} (b : Bool) (hb : Pr.has Pr.okM g = b) (h : GmC w x y g) (hf : GmOk g) :
    Calls Try.prog 55 #[.agg #[x, y], .int .i64 1] w fun e w' => e = .returned (.bool b) ∧ Below w.heap.size w w' := by
  obtain ⟨A, B, bad, hF⟩ : ∃ A B bad, Pr.fault Pr.okM g = (A, B, bad) := ⟨_, _, _, rfl⟩
  obtain ⟨v, hv⟩ : ∃ v, Gm.vld g = v := ⟨_, rfl⟩
  have HX := Lib.hid (gm_box h 26).1
  have HBl := Lib.hid (gm_box h 26).2
  have HF := Lib.hid hF
  have HV := Lib.hid hv
  have Hr := Lib.hid ((Pr.has_of hF hv).symm.trans hb)
  have HC := Lib.hid (CellsAt.new w #[x, y] 26)
  obtain ⟨m0, m1⟩ := two HC.out
  clear h hF hv hb
  go_enter Try.func55, Try.ntmps55
  go_wp2_with fail
  refine (spec_l10Fault1 HF.out HX.out hf).mono ?_
  rintro e w1 ⟨rfl, k⟩
  obtain ⟨m2, m3⟩ := two (HC.out.below k)
  have HX1 := Lib.hid (HX.out.up k)
  have HB1 := Lib.hid (HBl.out.trans (k.mono HBl.out.size))
  clear k m0 m1 HX
  go_wp2_with fail
  refine (spec_IsValidGame v HV.out HX1.out hf).mono ?_
  rintro e w2 ⟨rfl, k⟩
  have HB2 := Lib.hid (HB1.out.trans (k.mono HB1.out.size))
  clear k m2 m3
  rcases v with _ | _
  · go_wp2_with fail
    go_ret
    exact ⟨ret_bool Hr.out, HB2.out⟩
  · go_wp2_with fail
    go_ret
    exact ⟨ret_bool Hr.out, HB2.out⟩
set_option maxRecDepth 100000 in
set_option maxHeartbeats 1000000 in
theorem spec_IsMonotone {w : World} {x y : Value} {g : G} (b : Bool) (hb : Pr.has Pr.okM g = b) (h : GmC w x y g) (hf : GmOk g) :
    Calls Try.prog 31 #[.agg #[x, y]] w fun e w' => e = .returned (.bool b) ∧ Below w.heap.size w w' := by
  have HX := Lib.hid (gm_box h 26).1
  have HBl := Lib.hid (gm_box h 26).2
  have HF := Lib.hid hb
  obtain ⟨m0, m1⟩ := two (CellsAt.new w #[x, y] 26)
  clear h hb
  go_enter Try.func31, Try.ntmps31
  go_wp2_with fail
  refine (spec_l10Has1 b HF.out HX.out hf).mono ?_
  rintro e w1 ⟨rfl, k⟩
  have HB1 := Lib.hid (HBl.out.trans (k.mono HBl.out.size))
  clear k m0 m1
  go_wp2_with fail
  go_ret
  exact ⟨rfl, HB1.out⟩
set_option maxRecDepth 100000 in
set_option maxHeartbeats 1000000 in
theorem spec_SuperadditiveFault {w : World} {x y : Value} {g : G} {A B : Int} {bad : Bool} (hF : Pr.fault Pr.okS g = (A, B, bad)) (h : GmC w x y g) (hf : GmOk g) :
    Calls Try.prog 25 #[.agg #[x, y]] w fun e w' => e = .returned (.tuple #[.int .i64 A, .int .i64 B, .bool bad]) ∧ Below w.heap.size w w' := by
  have HX := Lib.hid (gm_box h 26).1
  have HBl := Lib.hid (gm_box h 26).2
  have HF := Lib.hid hF
  obtain ⟨m0, m1⟩ := two (CellsAt.new w #[x, y] 26)
  clear h hF
  go_enter Try.func25, Try.ntmps25
  go_wp2_with fail
  refine (spec_l10Fault2 HF.out HX.out hf).mono ?_
  rintro e w1 ⟨rfl, k⟩
  have HB1 := Lib.hid (HBl.out.trans (k.mono HBl.out.size))
  clear k m0 m1
  go_wp2_with fail
  go_ret3
  exact ⟨rfl, HB1.out⟩
set_option maxRecDepth 100000 in
set_option maxHeartbeats 1000000 in
theorem spec_l10Has2 {w : World} {x y : Value} {g : G} (b : Bool) (hb : Pr.has Pr.okS g = b) (h : GmC w x y g) (hf : GmOk g) :
    Calls Try.prog 55 #[.agg #[x, y], .int .i64 2] w fun e w' => e = .returned (.bool b) ∧ Below w.heap.size w w' := by
  obtain ⟨A, B, bad, hF⟩ : ∃ A B bad, Pr.fault Pr.okS g = (A, B, bad) := ⟨_, _, _, rfl⟩
  obtain ⟨v, hv⟩ : ∃ v, Gm.vld g = v := ⟨_, rfl⟩
  have HX := Lib.hid (gm_box h 26).1
  have HBl := Lib.hid (gm_box h 26).2
  have HF := Lib.hid hF
  have HV := Lib.hid hv
  have Hr := Lib.hid ((Pr.has_of hF hv).symm.trans hb)
  have HC := Lib.hid (CellsAt.new w #[x, y] 26)
  obtain ⟨m0, m1⟩ := two HC.out
  clear h hF hv hb
  go_enter Try.func55, Try.ntmps55
  go_wp2_with fail
  refine (spec_l10Fault2 HF.out HX.out hf).mono ?_
  rintro e w1 ⟨rfl, k⟩
  obtain ⟨m2, m3⟩ := two (HC.out.below k)
  have HX1 := Lib.hid (HX.out.up k)
  have HB1 := Lib.hid (HBl.out.trans (k.mono HBl.out.size))
  clear k m0 m1 HX
  go_wp2_with fail
  refine (spec_IsValidGame v HV.out HX1.out hf).mono ?_
  rintro e w2 ⟨rfl, k⟩
  have HB2 := Lib.hid (HB1.out.trans (k.mono HB1.out.size))
  clear k m2 m3
  rcases v with _ | _
  · go_wp2_with fail
    go_ret
    exact ⟨ret_bool Hr.out, HB2.out⟩
  · go_wp2_with fail
    go_ret
    exact ⟨ret_bool Hr.out, HB2.out⟩
set_option maxRecDepth 100000 in
set_option maxHeartbeats 1000000 in
theorem spec_IsSuperadditive {w : World} {x y : Value} {g : G} (b : Bool) (hb : Pr.has Pr.okS g = b) (h : GmC w x y g) (hf : GmOk g) :
    Calls Try.prog 32 #[.agg #[x, y]] w fun e w' => e = .returned (.bool b) ∧ Below w.heap.size w w' := by
  have HX := Lib.hid (gm_box h 26).1
  have HBl := Lib.hid (gm_box h 26).2
  have HF := Lib.hid hb
  obtain ⟨m0, m1⟩ := two (CellsAt.new w #[x, y] 26)
  clear h hb
  go_enter Try.func32, Try.ntmps32
  go_wp2_with fail
  refine (spec_l10Has2 b HF.out HX.out hf).mono ?_
  rintro e w1 ⟨rfl, k⟩
  have HB1 := Lib.hid (HBl.out.trans (k.mono HBl.out.size))
  clear k m0 m1
  go_wp2_with fail
  go_ret
  exact ⟨rfl, HB1.out⟩
set_option maxRecDepth 100000 in
set_option maxHeartbeats 1000000 in
theorem spec_ConvexFault {w : World} {x y : Value} {g : G} {A B : Int} {bad : Bool} (hF : Pr.fault Pr.okC g = (A, B, bad)) (h : GmC w x y g) (hf : GmOk g) :
    Calls Try.prog 15 #[.agg #[x, y]] w fun e w' => e = .returned (.tuple #[.int .i64 A, .int .i64 B, .bool bad]) ∧ Below w.heap.size w w' := by
  have HX := Lib.hid (gm_box h 26).1
  have HBl := Lib.hid (gm_box h 26).2
  have HF := Lib.hid hF
  obtain ⟨m0, m1⟩ := two (CellsAt.new w #[x, y] 26)
  clear h hF
  go_enter Try.func15, Try.ntmps15
  go_wp2_with fail
  refine (spec_l10Fault3 HF.out HX.out hf).mono ?_
  rintro e w1 ⟨rfl, k⟩
  have HB1 := Lib.hid (HBl.out.trans (k.mono HBl.out.size))
  clear k m0 m1
  go_wp2_with fail
  go_ret3
  exact ⟨rfl, HB1.out⟩
set_option maxRecDepth 100000 in
set_option maxHeartbeats 1000000 in
theorem spec_l10Has3 {w : World} {x y : Value} {g : G} (b : Bool) (hb : Pr.has Pr.okC g = b) (h : GmC w x y g) (hf : GmOk g) :
    Calls Try.prog 55 #[.agg #[x, y], .int .i64 3] w fun e w' => e = .returned (.bool b) ∧ Below w.heap.size w w' := by
  obtain ⟨A, B, bad, hF⟩ : ∃ A B bad, Pr.fault Pr.okC g = (A, B, bad) := ⟨_, _, _, rfl⟩
  obtain ⟨v, hv⟩ : ∃ v, Gm.vld g = v := ⟨_, rfl⟩
  have HX := Lib.hid (gm_box h 26).1
  have HBl := Lib.hid (gm_box h 26).2
  have HF := Lib.hid hF
  have HV := Lib.hid hv
  have Hr := Lib.hid ((Pr.has_of hF hv).symm.trans hb)
  have HC := Lib.hid (CellsAt.new w #[x, y] 26)
  obtain ⟨m0, m1⟩ := two HC.out
  clear h hF hv hb
  go_enter Try.func55, Try.ntmps55
  go_wp2_with fail
  refine (spec_l10Fault3 HF.out HX.out hf).mono ?_
  rintro e w1 ⟨rfl, k⟩
  obtain ⟨m2, m3⟩ := two (HC.out.below k)
  have HX1 := Lib.hid (HX.out.up k)
  have HB1 := Lib.hid (HBl.out.trans (k.mono HBl.out.size))
  clear k m0 m1 HX
  go_wp2_with fail
  refine (spec_IsValidGame v HV.out HX1.out hf).mono ?_
  rintro e w2 ⟨rfl, k⟩
  have HB2 := Lib.hid (HB1.out.trans (k.mono HB1.out.size))
  clear k m2 m3
  rcases v with _ | _
  · go_wp2_with fail
    go_ret
    exact ⟨ret_bool Hr.out, HB2.out⟩
  · go_wp2_with fail
    go_ret
    exact ⟨ret_bool Hr.out, HB2.out⟩
set_option maxRecDepth 100000 in
set_option maxHeartbeats 1000000 in
theorem spec_IsConvex {w : World} {x y : Value} {g : G} (b : Bool) (hb : Pr.has Pr.okC g = b) (h : GmC w x y g) (hf : GmOk g) :
    Calls Try.prog 33 #[.agg #[x, y]] w fun e w' => e = .returned (.bool b) ∧ Below w.heap.size w w' := by
  have HX := Lib.hid (gm_box h 26).1
  have HBl := Lib.hid (gm_box h 26).2
  have HF := Lib.hid hb
  obtain ⟨m0, m1⟩ := two (CellsAt.new w #[x, y] 26)
  clear h hb
  go_enter Try.func33, Try.ntmps33
  go_wp2_with fail
  refine (spec_l10Has3 b HF.out HX.out hf).mono ?_
  rintro e w1 ⟨rfl, k⟩
  have HB1 := Lib.hid (HBl.out.trans (k.mono HBl.out.size))
  clear k m0 m1
  go_wp2_with fail
  go_ret
  exact ⟨rfl, HB1.out⟩
end Go.Proofs.Ytodjapljoimkgaa
