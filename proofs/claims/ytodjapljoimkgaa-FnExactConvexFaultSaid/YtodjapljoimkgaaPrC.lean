/- Null players: both sides. -/
import Derived.Test.YtodjapljoimkgaaPrB
import Derived.Test.YtodjapljoimkgaaCoMem
import Derived.Test.YtodjapljoimkgaaLkInts
namespace Go.Proofs.Ytodjapljoimkgaa
open Go.RowKit
open Gm (G)
theorem nulTo_none {g : G} {k : Nat} {n : Nat} (h : Pr.nulTo g k n = false) : Pr.nulTo g k (n + 1) = false := by rw [Pr.nulTo, h]; rfl
theorem nulTo_skip {g : G} {k n : Nat} (h : Pr.nulTo g k n = true) (h2 : Pr.nulAt g k n = true) : Pr.nulTo g k (n + 1) = true := by rw [Pr.nulTo, h, h2]; rfl
theorem nulTo_hit {g : G} {k n : Nat} (h2 : Pr.nulAt g k n = false) : Pr.nulTo g k (n + 1) = false := by rw [Pr.nulTo, h2]; simp
theorem nulTo_end {g : G} {k : Nat} : Pr.nulTo g k g.v.length = Pr.nul g k := Pr.nulTo_all _
set_option maxRecDepth 100000 in
set_option maxHeartbeats 4000000 in
theorem spec_NullPlayers {w : World} {x y : Value} {g : G} (h : GmC w x y g) (hf : GmOk g) :
    Calls Try.prog 34 #[.agg #[x, y]] w (MakesInts (Pr.nullR g) w) := by
  have HX := Lib.hid (gm_box h 26).1
  have HBl := Lib.hid (gm_box h 26).2
  have HC := Lib.hid (CellsAt.new w #[x, y] 26)
  obtain ⟨W, hW⟩ : ∃ W, W = w.alloc (.cells #[x, y] 26) := ⟨_, rfl⟩
  have hws : W.heap.size = w.heap.size + 1 := by rw [hW, size1]
  rw [← hW] at HX HBl HC
  have HF := Lib.hid hf
  have HW := Lib.hid hW
  have hle : w.heap.size ≤ W.heap.size := HBl.out.size
  have hnn := hf.n
  have HO0 : Hid (OwnInts W.heap.size (W.alloc (.cells #[] 3)) (.slice (some ⟨w.heap.size + 1, 0, none⟩) 0 0) []) := by rw [← hws]; exact World.ownsRow_made W #[] 0 (Nat.le_refl _) (Nat.zero_le _) rfl
  have HB0 := Lib.hid ((Below.refl W.heap.size W).alloc (Nat.le_refl _) (.cells #[] 3))
  clear h hf hW hws
  rcases hv : Gm.vld g with _ | _
  · have HV := Lib.hid hv
    have Hr := Lib.hid (Pr.nullR_no hv)
    have HX0 := Lib.hid (HX.out.up HB0.out)
    obtain ⟨m0, m1⟩ := two (HC.out.below HB0.out)
    have hx0 := HX.out
    obtain ⟨a, c, rfl, rfl, _⟩ := hx0
    have HF1 := Lib.hid (OwnInts.raise2 (B' := w.heap.size) HO0.out hle)
    have HB1 := Lib.hid (HBl.out.trans (HB0.out.mono hle))
    rw [Hr.out]
    generalize hN : g.v.length = N at *
    clear hv hN
    go_enter Try.func34, Try.ntmps34
    go_wp2_with fail
    rw [← HW.out]
    clear HW HO0 HB0
    go_loopw [3, 4] (fun v i wr => v = .slice (some ⟨w.heap.size + 1, 0, none⟩) 0 0 ∧ i = .int .i64 0 ∧ wr = W.alloc (.cells #[] 3)) (fun _ _ _ => 0)
    case atStart => exact ⟨rfl, rfl, rfl⟩
    case round =>
      obtain ⟨rfl, rfl, rfl⟩ := hrel
      by_cases h0 : 0 < g.n
      · go_wp2_with fail
        refine (spec_IsValidGame false HV.out HX0.out HF.out).mono ?_
        rintro e w1 ⟨rfl, k⟩
        have HB2 := Lib.hid (HB1.out.trans (k.mono HB1.out.size))
        have HF2 := Lib.hid (HF1.out.below k)
        clear k m0 m1
        go_wp2_with fail
        go_ret
        exact ⟨_, rfl, HF2.out, HB2.out⟩
      · go_wp2_with fail
        go_ret
        exact ⟨_, rfl, HF1.out, HB1.out⟩
  · have HV := Lib.hid hv
    have hl := Gm.vld_len hv
    have hn5 := Gm.vld_n hv
    have Hr := Lib.hid (Pr.nullR_yes hv)
    obtain ⟨K, hK⟩ : ∃ K : Nat, g.n = K := ⟨g.n.toNat, by omega⟩
    rw [hK, Int.toNat_natCast] at Hr
    have hx0 := HX.out
    obtain ⟨a, c, rfl, rfl, hi⟩ := hx0
    obtain ⟨bb, o, rfl, hbb, _⟩ := hi 0 (by omega)
    have HI := Lib.hid hi
    have HAt := Lib.hid (fun j (hj : j < g.v.length) => Gm.vld_at hv hj)
    have HNm := Lib.hid (fun (wr : World) (hb : Below W.heap.size W wr) j (hj : j < g.v.length) => nums_at (HI.out.below hb) hj)
    have HMo := Lib.hid (fun (s k : Nat) (hs : s < g.v.length) (hk : (k : Int) < g.n) hh => (Pr.more_no hv (s := s) (k := k) hs hk hh).2)
    have HEnd := Lib.hid (fun k => nulTo_end (g := g) (k := k))
    obtain ⟨N, hN⟩ : ∃ N, g.v.length = N := ⟨_, rfl⟩
    have HX1 : Hid (GmC W (.int .i64 K) (.slice (some ⟨bb, o, none⟩) N c) g) := by rw [← hN, ← hK]; exact HX.out
    rw [hN] at hl HAt HNm HC HW HMo HEnd
    rw [hK] at hn5 HC HW HMo
    rw [Hr.out, hN, hK]
    replace HX := HX1
    have hK5 : K ≤ 5 := by omega
    obtain ⟨i0, hi0, hz0, hz1, hz2⟩ := info_parts info_int
    have HInf := Lib.hid hi0
    have HZ0 := Lib.hid hz0
    have HZ1 := Lib.hid hz1
    have HZ2 := Lib.hid hz2
    obtain ⟨m0, m1⟩ := two (HC.out.below HB0.out)
    clear hv hN hi HI hbb HX1 hi0 hz0 hz1 hz2 hnn hK
    go_enter Try.func34, Try.ntmps34
    go_wp2_with fail
    rw [← HW.out]
    clear HW
    go_loopw [3, 4] (fun v i wr => ∃ k : Nat, k ≤ K ∧ i = .int .i64 k ∧ Hid (OwnInts W.heap.size wr v (Pr.nulls g k)) ∧ Hid (Below W.heap.size W wr)) (fun _ i _ => K - (intOf i).toNat)
    case atStart => exact ⟨0, Nat.zero_le _, rfl, HO0, HB0⟩
    case round =>
      obtain ⟨k, hk, rfl, hO, hB⟩ := hrel
      clear m0 m1 HO0 HB0
      by_cases hlt : k < K
      · obtain ⟨m2, m3⟩ := two (HC.out.below hB.out)
        have hk5 : k < 5 := by omega
        go_wp2_with fail
        refine (spec_IsValidGame true HV.out (HX.out.up hB.out) HF.out).mono ?_
        rintro e w1 ⟨rfl, kB⟩
        have HB1 := Lib.hid (hB.out.trans (kB.mono hB.out.size))
        have HO1 := Lib.hid (hO.out.below kB)
        clear kB m2 m3 hO hB
        go_wp2_with fail
        go_loopw [5, 6] (fun b i wr => ∃ s : Nat, s ≤ N ∧ i = .int .i64 s ∧ b = .bool (Pr.nulTo g k s) ∧ Hid (OwnInts W.heap.size wr u3 (Pr.nulls g k)) ∧ Hid (Below W.heap.size W wr)) (fun _ i _ => N - (intOf i).toNat)
        case atStart => exact ⟨0, Nat.zero_le _, rfl, rfl, HO1, HB1⟩
        case round =>
          obtain ⟨s, hs, rfl, rfl, hO2, hB2⟩ := hrel
          clear HO1 HB1
          obtain ⟨m2, m3⟩ := two (HC.out.below hB2.out)
          by_cases hls : s < N
          · rcases hnt : Pr.nulTo g k s with _ | _
            · have He := Lib.hid (nulTo_none hnt)
              clear hnt
              go_wp2_with fail
              go_quiet (fail)
              go_wp2_with fail
              go_roundw
              case rel => exact ⟨s + 1, by omega, by go_num, by rw [He.out], hO2.drewN nq, below_drewN hB2.out nq⟩
              case measure => simp [intOf]; omega
            · rcases hh : Co.has (s : Int) k with _ | _
              · have hmo := HMo.out s k hls (by omega) hh
                have c1 := HNm.out _ hB2.out s hls
                have c2 := HNm.out _ hB2.out (s + 2 ^ k) hmo
                have hbk := spec_l2Bit k (by omega)
                have Hh := Lib.hid (fun W' => (spec_HasPlayer (s : Int) (by omega) k hk5 false hh W').mono fun _ w' h => (show _ ∧ w' = W' from ⟨h.1, h.2.symm⟩))
                have Hk := Lib.hid (fun W' => (hbk W').mono fun _ w' h => (show _ ∧ w' = W' from ⟨h.1, h.2.symm⟩))
                have b1 := HAt.out s hls
                have b2 := HAt.out (s + 2 ^ k) hmo
                rcases hq : Pr.nulAt g k s with _ | _
                · have He := Lib.hid (nulTo_hit hq)
                  have hne : (g.v.getD s 0 == g.v.getD (s + 2 ^ k) 0) = false := by
                    unfold Pr.nulAt Pr.at' at hq
                    rw [hh, Bool.false_or] at hq
                    have := of_decide_eq_false hq
                    rw [beq_eq_false_iff_ne]; exact this
                  clear hnt hq hbk hh
                  generalize g.v.getD s 0 = X at *
                  generalize g.v.getD (s + 2 ^ k) 0 = Y at *
                  generalize 2 ^ k = P at *
                  go_wp2_with fail
                  go_quiet (first | (go_at_call 56; exact Calls.quiet_of_same (Hh.out _)) | (go_at_call 57; exact Calls.quiet_of_same (Hk.out _)))
                  go_wp2_with fail
                  go_roundw
                  case rel => exact ⟨s + 1, by omega, by go_num, by rw [He.out], hO2.drewN nq, below_drewN hB2.out nq⟩
                  case measure => simp [intOf]; omega
                · have He := Lib.hid (nulTo_skip hnt hq)
                  have hne : (g.v.getD s 0 == g.v.getD (s + 2 ^ k) 0) = true := by
                    unfold Pr.nulAt Pr.at' at hq
                    rw [hh, Bool.false_or] at hq
                    have := of_decide_eq_true hq
                    rw [beq_iff_eq]; exact this
                  clear hnt hq hbk hh
                  generalize g.v.getD s 0 = X at *
                  generalize g.v.getD (s + 2 ^ k) 0 = Y at *
                  generalize 2 ^ k = P at *
                  go_wp2_with fail
                  go_quiet (first | (go_at_call 56; exact Calls.quiet_of_same (Hh.out _)) | (go_at_call 57; exact Calls.quiet_of_same (Hk.out _)))
                  go_wp2_with fail
                  go_roundw
                  case rel => exact ⟨s + 1, by omega, by go_num, by rw [He.out], hO2.drewN nq, below_drewN hB2.out nq⟩
                  case measure => simp [intOf]; omega
              · have Hh := Lib.hid (fun W' => (spec_HasPlayer (s : Int) (by omega) k hk5 true hh W').mono fun _ w' h => (show _ ∧ w' = W' from ⟨h.1, h.2.symm⟩))
                have He := Lib.hid (nulTo_skip hnt (by unfold Pr.nulAt; rw [hh]; rfl))
                clear hnt hh
                go_wp2_with fail
                go_quiet (first | (go_at_call 56; exact Calls.quiet_of_same (Hh.out _)))
                go_wp2_with fail
                go_roundw
                case rel => exact ⟨s + 1, by omega, by go_num, by rw [He.out], hO2.drewN nq, below_drewN hB2.out nq⟩
                case measure => simp [intOf]; omega
          · have hse : s = N := by omega
            subst hse
            rcases hnu : Pr.nul g k with _ | _
            · have He := Lib.hid (Pr.nulls_no hnu)
              have hend := (HEnd.out k).trans hnu
              rw [hend]
              clear hnu hend
              go_wp2_with fail
              go_roundw
              case rel => exact ⟨k + 1, by omega, by go_num, by rw [He.out]; exact hO2, hB2⟩
              case measure => simp [intOf]; omega
            · have He := Lib.hid (Pr.nulls_yes hnu)
              have hend := (HEnd.out k).trans hnu
              have hsz := hB2.out.size
              have hlen := Pr.nulls_len g k
              have Hown := Lib.hid (World.ownsRow.alloc hO2.out (.cells #[.int .i64 k] 3))
              rw [hend]
              clear hnu hend
              generalize Pr.nulls g k = xs at *
              go_wp2_with (at_builtin; refine wpList_append_own _ rfl _ _ 24 rfl W.heap.size 3 i0 (.int .i64 0) 1 8 Try.underlying24 HInf.out HZ0.out HZ1.out HZ2.out rfl (by decide) _ _ _ rfl Hown.out ⟨wr.heap.size, 0, none⟩ 1 1 [.int .i64 k] rfl rfl ?c1 ?c2 ?c3 ?c4 ?c5 ?_)
              case c1 =>
                intro j u hj
                match j, hj with
                | 0, hj => simp at hj; subst hj; simp [Addr.add]
              case c2 => intro u hu; simp at hu; subst hu; rfl
              case c3 => unfold maxLen; omega
              case c4 => omega
              case c5 => simp; omega
              intro v' w1 hown' hgrow _
              have Ho1 := Lib.hid (OwnInts.more hown')
              have Hb1 := Lib.hid ((hB2.out.alloc hsz _).grown hgrow (by simp; omega) (fun g hg => (Hown.out.lt g hg).1))
              rw [← He.out] at Ho1
              clear hown' hgrow
              go_wp2_with fail
              go_roundw
              case rel => exact ⟨k + 1, by omega, by go_num, Ho1, Hb1⟩
              case measure => simp [intOf]; omega
      · have he : k = K := by omega
        subst he
        have HF1 := Lib.hid (OwnInts.raise2 (B' := w.heap.size) hO.out hle)
        have HB1 := Lib.hid (HBl.out.trans (hB.out.mono hle))
        obtain ⟨m2, m3⟩ := two (HC.out.below hB.out)
        go_wp2_with fail
        go_ret
        exact ⟨_, rfl, HF1.out, HB1.out⟩
end Go.Proofs.Ytodjapljoimkgaa
