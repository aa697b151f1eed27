/- The specification's ScaleGame. -/
import Derived.Test.YtccgebnbpfliiaaGmC
import Derived.Test.YtccgebnbpfliiaaLkInts
namespace Go.Proofs.Ytccgebnbpfliiaa
open Go.RowKit
open Gm (G)
theorem two_boxes (w : World) (x y : Value) (t : TypeId) (W : World) (hW : W = (w.alloc (.cells #[x, y] t)).alloc (.cells #[.int .i64 0, .slice none 0 0] t)) :
    CellsAt W w.heap.size #[x, y] t ∧ CellsAt W (w.heap.size + 1) #[.int .i64 0, .slice none 0 0] t ∧ Below w.heap.size w W ∧ w.heap.size + 2 ≤ W.heap.size := by
  have h1 := ((CellsAt.new w #[x, y] t).more (.cells #[.int .i64 0, .slice none 0 0] t))
  have h3 := CellsAt.new (w.alloc (.cells #[x, y] t)) #[.int .i64 0, .slice none 0 0] t
  rw [size1] at h3
  subst hW
  exact ⟨h1, h3, ((Below.refl w.heap.size w).alloc (Nat.le_refl _) _).alloc (by rw [size1]; omega) _, by rw [size2]; omega⟩
set_option maxRecDepth 100000 in
set_option maxHeartbeats 4000000 in
theorem spec_ScaleGame {w : World} {x y u : Value} {g : G} {kf : Int} {zs : List Int} (h : GmC w x y g) (hu : InInts w u zs) (hf : GmOk g) (hz : zs.length ≤ 1048576) :
    Calls Try.prog 17 #[.agg #[x, y], .int .i64 kf, u] w (MakesGm (Gm.scl g kf zs) w) := by
  obtain ⟨W, hW⟩ : ∃ W, W = (w.alloc (.cells #[x, y] 26)).alloc (.cells #[.int .i64 0, .slice none 0 0] 26) := ⟨_, rfl⟩
  obtain ⟨q1, q3, q4, q5⟩ := two_boxes w x y 26 W hW
  have HA := Lib.hid (h.up q4)
  have HC1 := Lib.hid q1
  have HC3 := Lib.hid q3
  have HB := Lib.hid q4
  have HW := Lib.hid hW
  have HF := Lib.hid hf
  obtain ⟨R, hR⟩ : ∃ R, Gm.scl g kf zs = R := ⟨_, rfl⟩
  have HR0 := Lib.hid hR
  rw [hR]
  obtain ⟨au, cu, rfl, hnu⟩ := hu
  have HU := Lib.hid (hnu.below q4)
  clear q1 q3 q4 h hW hf hR hnu
  rcases hv : Gm.vld g with _ | _
  · have Hr := Lib.hid (show (Gm.G0, false) = R by rw [← HR0.out]; exact (Gm.scl_no (by unfold Gm.sclOk; rw [hv]; rfl)).symm)
    have HV := Lib.hid hv
    clear hv HR0
    go_enter Try.func17, Try.ntmps17
    go_wp2_with fail
    rw [← HW.out]
    refine (spec_IsValidGame false HV.out HA.out HF.out).mono ?_
    rintro e w1 ⟨rfl, k⟩
    have HB1 := Lib.hid (HB.out.trans (k.mono (by omega)))
    have HC4 := Lib.hid (HC3.out.below k)
    clear k HW
    have HR := Lib.hid ((HC4.out.s0 (.int .i64 0)).s1 (.slice none 0 0))
    have HBz := Lib.hid ((HB1.out.setCell (p := ⟨w.heap.size + 1, 0, none⟩) (by simp only; omega) (.int .i64 0)).setCell (p := ⟨w.heap.size + 1, 1, none⟩) (by simp only; omega) (.slice none 0 0))
    obtain ⟨d0, d1, e0, e1⟩ := two' HC4.out
    go_wp2_with fail
    refine bodyPost_ret (v := .tuple #[.agg #[.int .i64 0, .slice none 0 0], .bool false]) (by
      obtain ⟨z0, z1⟩ := two HR.out
      revert z0 z1
      generalize ((w1.setCell ⟨w.heap.size + 1, 0, none⟩ (.int .i64 0)).setCell ⟨w.heap.size + 1, 1, none⟩ (.slice none 0 0)) = W4
      intro z0 z1
      simp [results, Try.results17, go_sem, z0, z1]) rfl (by rw [← Hr.out]; exact ⟨⟨_, _, rfl, ResGm.zero _ _⟩, HBz.out⟩)
  · have HV := Lib.hid hv
    obtain ⟨gn, gv⟩ := g
    obtain ⟨a, c, rfl, rfl, hi⟩ := HA.out
    have hl := Gm.vld_len hv
    have hn1 := Gm.vld_n hv
    dsimp only at hl hn1 hi
    by_cases hn : (zs.length : Int) = gn
    · have hq : ((zs.length : Int) != gn) = false := by rw [hn]; simp
      by_cases hk : -500 ≤ kf ∧ kf ≤ 500
      · have Hd := Lib.hid (show decide (-500 ≤ kf ∧ kf ≤ 500) = true from decide_eq_true hk)
        have HN := Lib.hid hi
        have hz5 : zs.length ≤ 5 := by omega
        have hz1 : 1 ≤ zs.length := by omega
        obtain ⟨f, hfe⟩ : ∃ f, Gm.sclAt ⟨gn, gv⟩ kf zs = f := ⟨_, rfl⟩
        rcases hw : Gm.within 500 zs with _ | _
        · have Hr := Lib.hid (show (Gm.G0, false) = R by rw [← HR0.out]; exact (Gm.scl_no (by unfold Gm.sclOk; rw [hw]; simp)).symm)
          have HWi := Lib.hid hw
          have hb0 := Gm.mul_bd hk (Gm.vld_at hv (show 0 < (Gm.G.mk gn gv).v.length by dsimp only; omega))
          have hzz : gv.getD 0 0 = 0 := (Gm.vld_parts hv).2.2
          have hp0 : 0 < gv.length := by omega
          obtain ⟨bv, ov, rfl, _, hc0⟩ := hi 0 hp0
          rw [Nat.add_zero, hzz] at hc0
          have HZ0 := Lib.hid hc0
          have hbv : bv < w.heap.size + 2 ∨ True := .inr trivial
          clear hv hw HR0 hi hn hfe hb0 hzz hc0 hbv
          go_enter Try.func17, Try.ntmps17
          go_wp2_with fail
          rw [← HW.out]
          refine (spec_IsValidGame true HV.out HA.out HF.out).mono ?_
          rintro e w1 ⟨rfl, k⟩
          have HK1 := Lib.hid k
          have hs1 := k.size
          have HA1 := Lib.hid (HA.out.up k)
          obtain ⟨m0, m1⟩ := two (HC1.out.below k)
          clear k HW
          go_wp2_with fail
          refine (spec_l1In kf (-500) 500 true Hd.out _).mono ?_
          rintro e w9 ⟨rfl, rfl⟩
          go_wp2_with fail
          refine (spec_l8Copy HA1.out HF.out).mono ?_
          rintro e w3 ⟨⟨v, rfl, ho⟩, k⟩
          obtain ⟨av, cv, rfl⟩ := ints_shape ho
          have hs3 := k.size
          have HK3 := Lib.hid (HK1.out.trans (k.mono hs1))
          have HQ := Lib.hid (CellsAt.new w3 #[.int .i64 gn, .slice av gv.length cv] 26)
          have HK4 := Lib.hid (HK3.out.alloc (by omega) (.cells #[.int .i64 gn, .slice av gv.length cv] 26))
          obtain ⟨o0, o1⟩ := two HQ.out
          obtain ⟨m2, m3⟩ := two (HC1.out.below HK4.out)
          have hbw : bv < W.heap.size := by
            have := HZ0.out
            exact lt_of_cell (p := ⟨bv, ov, none⟩) this
          have hc1 := (HK4.out.cell (p := ⟨bv, ov, none⟩) hbw).trans HZ0.out
          have HU4 := Lib.hid (HU.out.below (HK4.out.mono (by omega)))
          have HB4 := Lib.hid (HB.out.trans (HK4.out.mono (by omega)))
          have HC4 := Lib.hid (HC3.out.below HK4.out)
          have hsx := HK4.out.size
          clear k ho m0 m1 HK1 HK3
          go_wp2_with fail
          go_loop [9] (fun i => i = .int .i64 0) (fun i => 5 - (intOf i).toNat)
          case atStart => rfl
          case round =>
            obtain rfl := hrel
            go_wp2_with fail
            go_loop [10, 11] (fun n i => ∃ (j : Nat) (nn : Int), j ≤ zs.length ∧ i = .int .i64 j ∧ n = .int .i64 nn ∧ -10000 ≤ nn ∧ nn ≤ 10000 ∧ -(500 * (j : Int)) ≤ nn ∧ nn ≤ 500 * j ∧ Hid (∀ j', j' < j → decide (-500 ≤ zs.getD j' 0 ∧ zs.getD j' 0 ≤ 500) = true)) (fun _ i => zs.length - (intOf i).toNat)
            case atStart => exact ⟨0, _, Nat.zero_le _, rfl, (by go_num), by omega, by omega, by omega, by omega, fun j hj => absurd hj (by omega)⟩
            case round =>
              obtain ⟨j, nn, hj, rfl, rfl, hn0, hn1', hn2, hn3, hA⟩ := hrel
              by_cases hlt : j < zs.length
              · obtain ⟨b1, u1, rfl, _, c1⟩ := HU4.out j hlt
                rcases hvz : decide (-500 ≤ zs.getD j 0 ∧ zs.getD j 0 ≤ 500) with _ | _
                · generalize zs.getD j 0 = z at *
                  have Hvz := Lib.hid hvz
                  clear hvz
                  go_wp2_with fail
                  refine (spec_l1In z (-500) 500 false Hvz.out _).mono ?_
                  rintro e w9 ⟨rfl, rfl⟩
                  have HR := Lib.hid ((HC4.out.s0 (.int .i64 0)).s1 (.slice none 0 0))
                  have HBz := Lib.hid ((HB4.out.setCell (p := ⟨w.heap.size + 1, 0, none⟩) (by simp only; omega) (.int .i64 0)).setCell (p := ⟨w.heap.size + 1, 1, none⟩) (by simp only; omega) (.slice none 0 0))
                  obtain ⟨d0, d1, e0, e1⟩ := two' HC4.out
                  go_wp2_with fail
                  refine bodyPost_ret (v := .tuple #[.agg #[.int .i64 0, .slice none 0 0], .bool false]) (by
                    obtain ⟨z0, z1⟩ := two HR.out
                    revert z0 z1
                    generalize (((w3.alloc (.cells #[.int .i64 gn, .slice av gv.length cv] 26)).setCell ⟨w.heap.size + 1, 0, none⟩ (.int .i64 0)).setCell ⟨w.heap.size + 1, 1, none⟩ (.slice none 0 0)) = W4
                    intro z0 z1
                    simp [results, Try.results17, go_sem, z0, z1]) rfl (by rw [← Hr.out]; exact ⟨⟨_, _, rfl, ResGm.zero _ _⟩, HBz.out⟩)
                · have HA2 : Hid (∀ j', j' < j + 1 → decide (-500 ≤ zs.getD j' 0 ∧ zs.getD j' 0 ≤ 500) = true) := fun j' hj' => by
                    by_cases e : j' = j
                    · subst e; exact hvz
                    · exact hA.out j' (by omega)
                  have hzb := of_decide_eq_true hvz
                  have Hhas := Lib.hid (fun W => spec_HasPlayer 0 (by decide) j (by omega) false (by unfold Co.has; rw [decide_eq_false_iff_not]; simp) W)
                  generalize zs.getD j 0 = z at *
                  have Hvz := Lib.hid hvz
                  clear hvz
                  go_wp2_with fail
                  refine (spec_l1In z (-500) 500 true Hvz.out _).mono ?_
                  rintro e w9 ⟨rfl, rfl⟩
                  go_wp2_with fail
                  refine (Hhas.out _).mono ?_
                  rintro e w9 ⟨rfl, rfl⟩
                  go_wp2_with fail
                  go_round
                  case rel => exact ⟨j + 1, nn, by omega, by go_num, rfl, hn0, hn1', by omega, by omega, HA2⟩
                  case measure => simp [intOf]; omega
              · exfalso
                have h9 := Gm.within_all (m := 500) (l := zs) fun j' hj' => hA.out j' (by omega)
                rw [HWi.out] at h9
                cases h9
        · have Hok := Lib.hid (show Gm.scl ⟨gn, gv⟩ kf zs = Gm.keep (Gm.mk gn (Gm.sclAt ⟨gn, gv⟩ kf zs) gv.length) from Gm.scl_yes (by unfold Gm.sclOk; rw [hv, hw]; simp [hn, hk]))
          have Hat := Lib.hid (fun s => show Gm.sclAt ⟨gn, gv⟩ kf zs s = kf * gv.getD s 0 + Gm.tot zs s zs.length from rfl)
          have Hmb := Lib.hid (fun s (h1 : s < gv.length) => Gm.mul_bd hk (Gm.vld_at hv (show s < (Gm.G.mk gn gv).v.length from h1)))
          have Htb := Lib.hid (Gm.tot_bd hw)
          have Hzb := Lib.hid (fun j (h1 : j < zs.length) => Gm.within_at hw h1)
          have hgl : gv.length ≤ 32 := hl.2
          rw [hfe] at Hok Hat
          have Hr := Lib.hid (Hok.out.symm.trans HR0.out)
          clear hv hw HR0 hi hn Hok hfe
          go_enter Try.func17, Try.ntmps17
          go_wp2_with fail
          rw [← HW.out]
          refine (spec_IsValidGame true HV.out HA.out HF.out).mono ?_
          rintro e w1 ⟨rfl, k⟩
          have HK1 := Lib.hid k
          have hs1 := k.size
          have HA1 := Lib.hid (HA.out.up k)
          obtain ⟨m0, m1⟩ := two (HC1.out.below k)
          clear k HW
          go_wp2_with fail
          refine (spec_l1In kf (-500) 500 true Hd.out _).mono ?_
          rintro e w9 ⟨rfl, rfl⟩
          go_wp2_with fail
          refine (spec_l8Copy HA1.out HF.out).mono ?_
          rintro e w3 ⟨⟨v, rfl, ho⟩, k⟩
          obtain ⟨av, cv, rfl, _, hab, hag⟩ := own_reads ho
          obtain ⟨b, rfl⟩ := hag (by intro e; rw [show gv = [] from e] at hl; simp at hl)
          have hbl := hab _ rfl
          have hs3 := k.size
          have HK3 := Lib.hid k
          have HQ := Lib.hid (CellsAt.new w3 #[.int .i64 gn, .slice (some ⟨b, 0, none⟩) gv.length cv] 26)
          have HK4 := Lib.hid (k.alloc hs3 (.cells #[.int .i64 gn, .slice (some ⟨b, 0, none⟩) gv.length cv] 26))
          have HO4 : Hid (OwnInts w1.heap.size (w3.alloc (.cells #[.int .i64 gn, .slice (some ⟨b, 0, none⟩) gv.length cv] 26)) (.slice (some ⟨b, 0, none⟩) gv.length cv) (Gm.part f gv 0)) := by rw [Gm.part_zero]; exact ho.alloc _
          clear k ho hab hag m0 m1
          go_wp2_with fail
          go_loopw [9] (fun i wr => ∃ k : Nat, k ≤ gv.length ∧ i = .int .i64 k ∧ Hid (CellsAt wr w3.heap.size #[.int .i64 gn, .slice (some ⟨b, 0, none⟩) gv.length cv] 26) ∧ Hid (OwnInts w1.heap.size wr (.slice (some ⟨b, 0, none⟩) gv.length cv) (Gm.part f gv k)) ∧ Hid (Below w1.heap.size w1 wr)) (fun i _ => gv.length - (intOf i).toNat)
          case atStart => exact ⟨0, Nat.zero_le _, rfl, HQ, HO4, HK4⟩
          case round =>
            obtain ⟨k, hkl, rfl, hQ, hO, hK⟩ := hrel
            have hKW := HK1.out.trans (hK.out.mono hs1)
            obtain ⟨o0, o1⟩ := two hQ.out
            by_cases hlt : k < gv.length
            · obtain ⟨m2, m3⟩ := two (HC1.out.below hKW)
              obtain ⟨b1, u1, rfl, _, c1⟩ := (HN.out.below hKW) k hlt
              have HU5 := Lib.hid (HU.out.below (hKW.mono (by omega)))
              have hmb := Hmb.out k hlt
              have hpl := Gm.part_len f (l := gv) (k := k) hkl
              have h0 : OwnInts w1.heap.size wr (.slice (some ⟨b, 0, none⟩) (Gm.part f gv k).length cv) (Gm.part f gv k) := by rw [hpl]; exact hO.out
              have c3 : ∃ x, wr.cell? ⟨b, k, none⟩ = some (.int .i64 x) := by
                have hj' : k < (Gm.part f gv k).length := by omega
                rw [World.ownsRow.cellAt h0 k (by omega), List.getElem?_map, List.getElem?_eq_getElem hj']
                exact ⟨_, rfl⟩
              obtain ⟨xo, c3⟩ := c3
              have f3 : wr.frozen? ⟨b, k, none⟩ = false := World.ownsRow.frozenAt h0 k
              have HO2 := Lib.hid (fun (y : Int) (hy : y = f k) => show OwnInts w1.heap.size (wr.setCell ⟨b, k, none⟩ (.int .i64 y)) (.slice (some ⟨b, 0, none⟩) gv.length cv) (Gm.part f gv (k + 1)) by
                have h3 := own_set h0 k (f k)
                rw [Gm.part_set f hlt, Gm.part_len f (by omega)] at h3
                rw [hy]; exact h3)
              have hne : b ≠ w3.heap.size := by omega
              have HQ2 := Lib.hid (fun y : Int => hQ.out.other (p := ⟨b, k, none⟩) hne (.int .i64 y))
              have HK5 := Lib.hid (fun y : Int => hK.out.setCell (p := ⟨b, k, none⟩) hbl.1 (.int .i64 y))
              have hl1 : (k : Int) < (gv.length : Int) := by omega
              have Hfk := Lib.hid (Hat.out k)
              clear hpl hKW h0
              generalize gv.getD k 0 = z1 at *
              go_wp2_with fail
              go_loop [10, 11] (fun n i => ∃ (j : Nat) (nn : Int), j ≤ zs.length ∧ i = .int .i64 j ∧ n = .int .i64 nn ∧ -260000 ≤ nn ∧ nn ≤ 260000 ∧ Hid (nn = kf * z1 + Gm.tot zs k j)) (fun _ i => zs.length - (intOf i).toNat)
              case atStart => exact ⟨0, _, Nat.zero_le _, rfl, rfl, by omega, by omega, by show _ = _; simp [Gm.tot]⟩
              case round =>
                obtain ⟨j, nn, hj, rfl, rfl, hn0, hn1', hn2⟩ := hrel
                by_cases hltj : j < zs.length
                · obtain ⟨b2, u2, rfl, _, c2⟩ := HU5.out j hltj
                  have hzb := Hzb.out j hltj
                  have htb := Htb.out (k : Int) (j + 1) (by omega)
                  have Hvz := Lib.hid (decide_eq_true hzb)
                  rcases hh : Co.has (k : Int) j with _ | _
                  · have He : Hid (nn = kf * z1 + Gm.tot zs k (j + 1)) := by show _ = _; rw [Gm.tot_no hh]; exact hn2.out
                    have Hhas := Lib.hid (fun W => spec_HasPlayer (k : Int) (by omega) j (by omega) false hh W)
                    clear hh
                    generalize zs.getD j 0 = z at *
                    go_wp2_with fail
                    refine (spec_l1In z (-500) 500 true Hvz.out _).mono ?_
                    rintro e w9 ⟨rfl, rfl⟩
                    go_wp2_with fail
                    refine (Hhas.out _).mono ?_
                    rintro e w9 ⟨rfl, rfl⟩
                    go_wp2_with fail
                    go_round
                    case rel => exact ⟨j + 1, nn, by omega, by go_num, rfl, hn0, hn1', He⟩
                    case measure => simp [intOf]; omega
                  · have He : Hid (nn + zs.getD j 0 = kf * z1 + Gm.tot zs k (j + 1)) := by show _ = _; rw [Gm.tot_yes hh]; have := hn2.out; omega
                    have Hhas := Lib.hid (fun W => spec_HasPlayer (k : Int) (by omega) j (by omega) true hh W)
                    have hbn : -260000 ≤ nn + zs.getD j 0 ∧ nn + zs.getD j 0 ≤ 260000 := by have := He.out; omega
                    clear hh htb
                    generalize zs.getD j 0 = z at *
                    go_wp2_with fail
                    refine (spec_l1In z (-500) 500 true Hvz.out _).mono ?_
                    rintro e w9 ⟨rfl, rfl⟩
                    go_wp2_with fail
                    refine (Hhas.out _).mono ?_
                    rintro e w9 ⟨rfl, rfl⟩
                    go_wp2_with fail
                    go_round
                    case rel => exact ⟨j + 1, nn + z, by omega, by go_num, rfl, hbn.1, hbn.2, He⟩
                    case measure => simp [intOf]; omega
                · have hje : j = zs.length := by omega
                  have HO3 := Lib.hid (HO2.out nn (by have := hn2.out; rw [hje] at this; rw [Hfk.out]; exact this))
                  have HQ3 := Lib.hid (HQ2.out nn)
                  have HK6 := Lib.hid (HK5.out nn)
                  clear hje hn2
                  go_wp2_with fail
                  go_roundw
                  case rel => exact ⟨k + 1, by omega, by go_num, HQ3, HO3, HK6⟩
                  case measure => simp [intOf]; omega
            · have hke : k = gv.length := by omega
              have HX : Hid (OwnInts w1.heap.size wr (.slice (some ⟨b, 0, none⟩) gv.length cv) (Gm.mk gn f gv.length).v) := by
                have := hO.out
                rw [hke, Gm.part_all gn] at this
                exact this
              have HGX := Lib.hid (GmC.of_own HX.out)
              have HFX : Hid (GmOk (Gm.mk gn f gv.length)) := ⟨by rw [Gm.mk_len]; omega, HF.out.2⟩
              have HC5 := Lib.hid (HC3.out.below hKW)
              have HB5 := Lib.hid (HB.out.trans (hKW.mono (by omega)))
              have hsr := hK.out.size
              clear hke
              obtain ⟨X, hX⟩ : ∃ X, Gm.mk gn f gv.length = X := ⟨_, rfl⟩
              have hXn : X.n = gn := by rw [← hX]; rfl
              rw [hX] at HX HGX HFX Hr
              subst hXn
              rcases hvx : Gm.vld X with _ | _
              · have HVX := Lib.hid hvx
                have Hr2 := Lib.hid ((Gm.keep_no hvx).symm.trans Hr.out)
                clear hvx
                go_wp2_with fail
                refine (spec_IsValidGame false HVX.out HGX.out HFX.out).mono ?_
                rintro e w5 ⟨rfl, k5⟩
                have HB6 := Lib.hid (HB5.out.trans (k5.mono HB5.out.size))
                have HC6 := Lib.hid (HC5.out.below k5)
                clear k5 o0 o1
                have HR := Lib.hid ((HC6.out.s0 (.int .i64 0)).s1 (.slice none 0 0))
                have HBz := Lib.hid ((HB6.out.setCell (p := ⟨w.heap.size + 1, 0, none⟩) (by simp only; omega) (.int .i64 0)).setCell (p := ⟨w.heap.size + 1, 1, none⟩) (by simp only; omega) (.slice none 0 0))
                obtain ⟨d0, d1, e0, e1⟩ := two' HC6.out
                go_wp2_with fail
                refine bodyPost_ret (v := .tuple #[.agg #[.int .i64 0, .slice none 0 0], .bool false]) (by
                  obtain ⟨z0, z1⟩ := two HR.out
                  revert z0 z1
                  generalize ((w5.setCell ⟨w.heap.size + 1, 0, none⟩ (.int .i64 0)).setCell ⟨w.heap.size + 1, 1, none⟩ (.slice none 0 0)) = W4
                  intro z0 z1
                  simp [results, Try.results17, go_sem, z0, z1]) rfl (by rw [← Hr2.out]; exact ⟨⟨_, _, rfl, ResGm.zero _ _⟩, HBz.out⟩)
              · have HVX := Lib.hid hvx
                have Hr2 := Lib.hid ((Gm.keep_yes hvx).symm.trans Hr.out)
                clear hvx
                go_wp2_with fail
                refine (spec_IsValidGame true HVX.out HGX.out HFX.out).mono ?_
                rintro e w5 ⟨rfl, k5⟩
                have HB6 := Lib.hid (HB5.out.trans (k5.mono HB5.out.size))
                have HC6 := Lib.hid (HC5.out.below k5)
                have HX6 := Lib.hid (HX.out.below k5)
                obtain ⟨o2, o3⟩ := two (hQ.out.below k5)
                obtain ⟨d0, d1, e0, e1⟩ := two' HC6.out
                have HR := Lib.hid ((HC6.out.s0 (.int .i64 X.n)).s1 (.slice (some ⟨b, 0, none⟩) gv.length cv))
                have hne2 : (Value.slice (some ⟨b, 0, none⟩) gv.length cv).ownBlock ≠ some (w.heap.size + 1) := by simp [Value.ownBlock]; omega
                have HY := Lib.hid (owns_set (i := 1) (u := .slice (some ⟨b, 0, none⟩) gv.length cv) (owns_set (i := 0) (u := .int .i64 X.n) HX6.out hne2) hne2)
                have HB7 := Lib.hid ((HB6.out.setCell (p := ⟨w.heap.size + 1, 0, none⟩) (by simp only; omega) (.int .i64 X.n)).setCell (p := ⟨w.heap.size + 1, 1, none⟩) (by simp only; omega) (.slice (some ⟨b, 0, none⟩) gv.length cv))
                clear k5 o0 o1 hne2
                go_wp2_with fail
                refine bodyPost_ret (v := .tuple #[.agg #[.int .i64 X.n, .slice (some ⟨b, 0, none⟩) gv.length cv], .bool true]) (by
                  obtain ⟨z0, z1⟩ := two HR.out
                  revert z0 z1
                  generalize ((w5.setCell ⟨w.heap.size + 1, 0, none⟩ (.int .i64 X.n)).setCell ⟨w.heap.size + 1, 1, none⟩ (.slice (some ⟨b, 0, none⟩) gv.length cv)) = W4
                  intro z0 z1
                  simp [results, Try.results17, go_sem, z0, z1]) rfl (by rw [← Hr2.out]; exact ⟨⟨_, _, rfl, ResGm.of_own (OwnInts.raise2 HY.out (by omega))⟩, HB7.out⟩)
      · have Hr := Lib.hid (show (Gm.G0, false) = R by rw [← HR0.out]; exact (Gm.scl_no (by unfold Gm.sclOk; simp [hk])).symm)
        have Hd := Lib.hid (show decide (-500 ≤ kf ∧ kf ≤ 500) = false from decide_eq_false hk)
        clear hv HR0 hi hn hk
        go_enter Try.func17, Try.ntmps17
        go_wp2_with fail
        rw [← HW.out]
        refine (spec_IsValidGame true HV.out HA.out HF.out).mono ?_
        rintro e w1 ⟨rfl, k⟩
        have HB1 := Lib.hid (HB.out.trans (k.mono (by omega)))
        have HC4 := Lib.hid (HC3.out.below k)
        obtain ⟨m0, m1⟩ := two (HC1.out.below k)
        clear k HW
        go_wp2_with fail
        refine (spec_l1In kf (-500) 500 false Hd.out _).mono ?_
        rintro e w9 ⟨rfl, rfl⟩
        have HR := Lib.hid ((HC4.out.s0 (.int .i64 0)).s1 (.slice none 0 0))
        have HBz := Lib.hid ((HB1.out.setCell (p := ⟨w.heap.size + 1, 0, none⟩) (by simp only; omega) (.int .i64 0)).setCell (p := ⟨w.heap.size + 1, 1, none⟩) (by simp only; omega) (.slice none 0 0))
        obtain ⟨d0, d1, e0, e1⟩ := two' HC4.out
        go_wp2_with fail
        refine bodyPost_ret (v := .tuple #[.agg #[.int .i64 0, .slice none 0 0], .bool false]) (by
          obtain ⟨z0, z1⟩ := two HR.out
          revert z0 z1
          generalize ((w1.setCell ⟨w.heap.size + 1, 0, none⟩ (.int .i64 0)).setCell ⟨w.heap.size + 1, 1, none⟩ (.slice none 0 0)) = W4
          intro z0 z1
          simp [results, Try.results17, go_sem, z0, z1]) rfl (by rw [← Hr.out]; exact ⟨⟨_, _, rfl, ResGm.zero _ _⟩, HBz.out⟩)
    · have Hr := Lib.hid (show (Gm.G0, false) = R by rw [← HR0.out]; exact (Gm.scl_no (by unfold Gm.sclOk; simp [hn])).symm)
      have hq : ((zs.length : Int) != gn) = true := by simp [hn]
      clear hv HR0 hi hn
      go_enter Try.func17, Try.ntmps17
      go_wp2_with fail
      rw [← HW.out]
      refine (spec_IsValidGame true HV.out HA.out HF.out).mono ?_
      rintro e w1 ⟨rfl, k⟩
      have HB1 := Lib.hid (HB.out.trans (k.mono (by omega)))
      have HC4 := Lib.hid (HC3.out.below k)
      obtain ⟨m0, m1⟩ := two (HC1.out.below k)
      clear k HW
      have HR := Lib.hid ((HC4.out.s0 (.int .i64 0)).s1 (.slice none 0 0))
      have HBz := Lib.hid ((HB1.out.setCell (p := ⟨w.heap.size + 1, 0, none⟩) (by simp only; omega) (.int .i64 0)).setCell (p := ⟨w.heap.size + 1, 1, none⟩) (by simp only; omega) (.slice none 0 0))
      obtain ⟨d0, d1, e0, e1⟩ := two' HC4.out
      go_wp2_with fail
      refine bodyPost_ret (v := .tuple #[.agg #[.int .i64 0, .slice none 0 0], .bool false]) (by
        obtain ⟨z0, z1⟩ := two HR.out
        revert z0 z1
        generalize ((w1.setCell ⟨w.heap.size + 1, 0, none⟩ (.int .i64 0)).setCell ⟨w.heap.size + 1, 1, none⟩ (.slice none 0 0)) = W4
        intro z0 z1
        simp [results, Try.results17, go_sem, z0, z1]) rfl (by rw [← Hr.out]; exact ⟨⟨_, _, rfl, ResGm.zero _ _⟩, HBz.out⟩)
end Go.Proofs.Ytccgebnbpfliiaa
