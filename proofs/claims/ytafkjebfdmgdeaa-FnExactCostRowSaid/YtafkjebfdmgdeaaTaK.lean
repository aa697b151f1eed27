/- spec.CostRow. -/
import Derived.Test.YtafkjebfdmgdeaaTaH
import Derived.Test.YtafkjebfdmgdeaaTaKm
import Derived.Test.YtafkjebfdmgdeaaLpG
import Derived.Deep.RegionHeld3
namespace Go.Proofs.Ytafkjebfdmgdeaa
open Go.RowKit
open Ve (R)
open Ta (T)
set_option maxRecDepth 100000 in
set_option maxHeartbeats 4000000 in
theorem spec_CostRow (B : Nat) (a b ca : Option Addr) (c1 c2 cc : Nat) (t : T) (cost : List R) (hn : TabFits t) (hcl : cost.length ≤ 1048576) (w : World) (hBw : B ≤ w.heap.size) (hz : TabIn B w a b t) (hk : RatsIn B w ca cost) :
    Calls Try.prog 35 #[tabV a b c1 c2 t, .slice ca cost.length cc] w (MakesRatsK (Ta.costR t cost) (Ta.costK t cost) w) := by
  have HN := Lib.hid hn
  have HZ := Lib.hid (hz.mono hBw)
  have HK := Lib.hid (hk.mono hBw)
  have hb := (Below.refl w.heap.size w).alloc (Nat.le_refl _) (.cells #[.slice a t.rows.length c1, .slice b t.basis.length c2, .int .i64 t.cols] 50)
  have hx := Tri.new w (.slice a t.rows.length c1) (.slice b t.basis.length c2) (.int .i64 t.cols) 50
  have Hb := Lib.hid hb
  have Hx := Lib.hid hx
  rw [show tabV a b c1 c2 t = .agg #[.slice a t.rows.length c1, .slice b t.basis.length c2, .int .i64 t.cols] from rfl]
  obtain ⟨g, hg⟩ : ∃ g, Ta.good t = g := ⟨_, rfl⟩
  have HG := Lib.hid (fun W (hB : w.heap.size ≤ W.heap.size) h => spec_l6Good w.heap.size a b c1 c2 t hn g hg W hB h)
  rw [show tabV a b c1 c2 t = .agg #[.slice a t.rows.length c1, .slice b t.basis.length c2, .int .i64 t.cols] from rfl] at HG
  obtain ⟨x0, x1, x2, _⟩ := hx.cells
  have Hg := Lib.hid hg
  have hn1 := hn.rows
  obtain ⟨RR, hRR⟩ : ∃ RR, Ta.costR t cost = RR := ⟨_, rfl⟩
  obtain ⟨KK, hKK⟩ : ∃ KK, Ta.costK t cost = KK := ⟨_, rfl⟩
  have HRR := Lib.hid hRR
  have HKK := Lib.hid hKK
  rw [hRR, hKK]
  clear hz hk hb hx hn hg hRR hKK
  go_enter Try.func35, Try.ntmps35
  go_wp2_with fail
  refine (HG.out _ Hb.out.size (HZ.out.below Hb.out)).mono ?_
  rintro e w1 ⟨rfl, hb1⟩
  have HB1 := Lib.hid (Hb.out.trans (hb1.mono Hb.out.size))
  have HX1 := Lib.hid (Hx.out.below hb1)
  clear x0 x1 x2 HG hb1 Hb Hx
  cases g with
  | false =>
    have hk0 := Ta.cost_form (cost := cost) Hg.out
    have Hr : Hid (([] : List R) = RR ∧ false = KK) := ⟨by rw [← HRR.out, Ta.cost_no hk0], by rw [← HKK.out, hk0]⟩
    clear hk0
    have hal := Lib.hid (HB1.out.alloc HB1.out.size (.cells #[] 30))
    go_wp2_with fail
    go_ret2
    exact ⟨_, ret_two Hr.out.2, by rw [← Hr.out.1]; exact World.ownsRow_made _ #[] 0 HB1.out.size (Nat.zero_le _) rfl, hal.out⟩
  | true =>
    obtain ⟨g0, g1, g2, g3⟩ := Ta.good_parts Hg.out
    have G3 := Lib.hid g3
    have G2 := Lib.hid g2
    have HR := Lib.hid HN.out.row
    obtain ⟨x0, x1, x2, _⟩ := HX1.out.cells
    clear g3 g2 HN
    by_cases hq : (cost.length : Int) = t.cols + (t.rows.length : Int)
    · have HE := Lib.hid (Ta.cost_end Hg.out hq)
      have Hq := Lib.hid hq
      have hne : ((cost.length : Int) != t.cols + (t.rows.length : Int)) = false := by rw [hq]; simp
      have hnb : cost.length ≤ 1100000 := by omega
      clear hq
      obtain ⟨L, B1, C⟩ := t
      simp only at g0 g1 hn1 x0 x1 x2 hne
      have HCp := Lib.hid (spec_l4Copy w.heap.size ca cc cost (by omega) w1 HB1.out.size (HK.out.below HB1.out))
      go_wp2_with fail
      refine HCp.out.mono ?_
      rintro e w2 ⟨v2, rfl, ho2, hb2⟩
      have HB2 := Lib.hid (HB1.out.trans (hb2.mono HB1.out.size))
      have HX2 := Lib.hid (HX1.out.below hb2)
      have HO2 := Lib.hid (ho2.lower HB1.out.size)
      have HL2 := Lib.hid (Nat.le_trans (lt_of_at HX1.out) (Nat.le_refl _))
      have HO2b : Hid (∀ g, v2.ownBlock = some g → g ≠ w.heap.size) := fun g hg => by have := (World.ownsRow.lt ho2 g hg).1; have := lt_of_at HX1.out; omega
      clear ho2 hb2 x0 x1 x2 HCp
      go_wp2_with fail
      refine (spec_l3Int 0 _).mono ?_
      rintro e w3 ⟨rfl, hb3⟩
      have hsz3 := HB2.out.size
      have HB3 := Lib.hid (HB2.out.trans (hb3.mono hsz3))
      have Hown : Hid (OwnRats w.heap.size (w3.alloc (.cells #[.int .i64 0, .int .i64 1] 30)) v2 cost) := OwnRats.alloc (HO2.out.below hb3) (.cells #[.int .i64 0, .int .i64 1] 30)
      have HX3 := Lib.hid ((HX2.out.below hb3).more (.cells #[.int .i64 0, .int .i64 1] 30))
      have Hone := Lib.hid (one_rat w3 (0, 1))
      have hsw := HB3.out.size
      clear hb3
      go_wp2_with (at_builtin; refine wpList_append_rats rfl _ _ rfl w.heap.size _ cost rfl Hown.out _ [(0, 1)] 1 1 rfl rfl _ Hone.out (by simp; omega) (by rw [size1]; omega) ?_)
      intro v4 w4 hown hgrow
      have HO4 := Lib.hid hown
      have HB4 := Lib.hid ((HB3.out.alloc hsw (.cells #[.int .i64 0, .int .i64 1] 30)).grown hgrow (by simp; omega) (fun g hg => (World.ownsRow.lt Hown.out g hg).1))
      have HX4 : Hid (Tri w4 w.heap.size (.slice a L.length c1) (.slice b B1.length c2) (.int .i64 C) 50) := (hgrow.block w.heap.size (lt_of_at HX3.out) (fun e => HO2b.out _ e.symm rfl)).trans HX3.out
      clear hown hgrow hsw hsz3
      have HAV := Lib.hid (spec_AllValid w.heap.size ca cc cost hcl w4 HB4.out.size (HK.out.below HB4.out))
      go_wp2_with fail
      refine HAV.out.mono ?_
      rintro e w5 ⟨rfl, hb5⟩
      have HB5 := Lib.hid (HB4.out.trans (hb5.mono HB4.out.size))
      have HX5 := Lib.hid (HX4.out.below hb5)
      have HO5 : Hid (OwnRats w.heap.size w5 v4 (Ta.cr ⟨L, B1, C⟩ cost 0).1) := HO4.out.below hb5
      have hv0 : Hid (Ve.good cost = (Ta.cr ⟨L, B1, C⟩ cost 0).2) := rfl
      generalize Ve.good cost = v0 at *
      clear hb5 HAV
      go_wp2_with fail
      go_loopw [6, 7, 8] (fun v o i wr => ∃ (k : Nat) (u : Value) (ok : Bool), u = v ∧ o = .bool ok ∧ k ≤ L.length ∧ i = .int .i64 k ∧ Hid (ok = (Ta.cr ⟨L, B1, C⟩ cost k).2) ∧ Hid (OwnRats w.heap.size wr u (Ta.cr ⟨L, B1, C⟩ cost k).1) ∧ Hid (Tri wr w.heap.size (.slice a L.length c1) (.slice b B1.length c2) (.int .i64 C) 50) ∧ Hid (Below w.heap.size w wr)) (fun _ _ i _ => L.length - (intOf i).toNat)
      case atStart => exact ⟨0, _, _, rfl, rfl, Nat.zero_le _, rfl, hv0, HO5, HX5, HB5⟩
      case round =>
        obtain ⟨k, u, ok, rfl, rfl, hk, rfl, hOk, hO, hX, hB⟩ := hrel
        obtain ⟨x0, x1, x2, _⟩ := hX.out.cells
        by_cases hlt : k < L.length
        · cases ok with
          | false =>
            have hz0 := Ta.cr_stop (t := ⟨L, B1, C⟩) hOk.out.symm L.length (by omega)
            have hk0 : KK = false := by rw [← HKK.out, HE.out]; exact hz0
            have Hr : Hid (([] : List R) = RR ∧ false = KK) := ⟨by rw [← HRR.out, Ta.cost_no (by rw [HKK.out]; exact hk0)], hk0.symm⟩
            have hal := Lib.hid (hB.out.alloc hB.out.size (.cells #[] 30))
            clear hz0 hk0
            go_wp2_with fail
            go_ret2
            exact ⟨_, ret_two Hr.out.2, by rw [← Hr.out.1]; exact World.ownsRow_made _ #[] 0 hB.out.size (Nat.zero_le _) rfl, hal.out⟩
          | true =>
            have hstep := Ta.cr_step (t := ⟨L, B1, C⟩) hOk.out.symm
            have hlen := Ta.cr_len (t := ⟨L, B1, C⟩) hOk.out.symm
            have hTw := HZ.out.below hB.out
            obtain ⟨b1, o1, a1, k1, rfl, hl1, hrow, hRr⟩ := hTw.mR k hlt
            obtain ⟨b2, o2, rfl, hl2, hbas⟩ := hTw.mB k (by have := G2.out; simp only at this ⊢; omega)
            obtain ⟨g31, g32, g33⟩ := G3.out k hlt
            simp only at hrow hbas hRr
            obtain ⟨j, hj⟩ : ∃ j : Nat, B1.getD k 0 = j := ⟨(B1.getD k 0).toNat, by have : 0 ≤ B1.getD k 0 := g32; omega⟩
            have hjc : j < cost.length := by have h1 : B1.getD k 0 ≤ C + (L.length : Int) - 1 := g33; have h2 : (cost.length : Int) = C + (L.length : Int) := Hq.out; omega
            obtain ⟨b3, o3, rfl, hl3, p0, p1⟩ := (HK.out.below hB.out).at j hjc
            rw [hj] at hbas
            have hsz := hB.out.size
            have HRl : Hid ((rr L k).length ≤ 1048576) := HR.out k hlt
            have hstep' : Ta.cr ⟨L, B1, C⟩ cost (k + 1) = (Ve.scR (Ta.cr ⟨L, B1, C⟩ cost k).1 (Ta.negR (Ve.at_ cost j)) (rr L k), Ve.scK (Ta.cr ⟨L, B1, C⟩ cost k).1 (Ta.negR (Ve.at_ cost j)) (rr L k)) := by
              rw [hstep]
              have e1 : (Ta.bas ⟨L, B1, C⟩ k).toNat = j := by show (B1.getD k 0).toNat = j; rw [hj]; simp
              rw [e1]; rfl
            have Hstep := Lib.hid hstep'
            obtain ⟨au, cu, rfl, hur, _⟩ := own_rats hO.out
            have Hur := Lib.hid hur
            have hxl : (Ta.cr ⟨L, B1, C⟩ cost k).1.length ≤ 1048576 := by have h1 : ((rr L k).length : Int) = C + (L.length : Int) + 1 := g31; have h2 : (cost.length : Int) = C + (L.length : Int) := Hq.out; have h3 := HRl.out; omega
            generalize (Ta.cr ⟨L, B1, C⟩ cost k).1 = xs at *
            have HRr := Lib.hid hRr
            have Cell := Lib.hid (fun w' (h : Since wr w') => (show w'.cell? ⟨w.heap.size, 0, none⟩ = some (.slice (some ⟨b1, o1, none⟩) L.length c1) ∧ w'.cell? ⟨w.heap.size, 1, none⟩ = some (.slice (some ⟨b2, o2, none⟩) B1.length c2) ∧ w'.cell? ⟨b2, o2 + k, none⟩ = some (.int .i64 j) ∧ w'.cell? ⟨b3, o3 + j * 2, none⟩ = some (.int .i64 (Ve.at_ cost j).1) ∧ w'.cell? ⟨b3, o3 + j * 2 + 1, none⟩ = some (.int .i64 (Ve.at_ cost j).2) ∧ w'.cell? ⟨b1, o1 + k, none⟩ = some (.slice a1 (rr L k).length k1) ∧ Since wr w' from
              ⟨h.cell (p := ⟨w.heap.size, 0, none⟩) (lt_of_at hX.out) x0, h.cell (p := ⟨w.heap.size, 1, none⟩) (lt_of_at hX.out) x1, h.cell (p := ⟨b2, o2 + k, none⟩) (show b2 < wr.heap.size by omega) hbas, h.cell (p := ⟨b3, o3 + j * 2, none⟩) (show b3 < wr.heap.size by omega) p0, h.cell (p := ⟨b3, o3 + j * 2 + 1, none⟩) (show b3 < wr.heap.size by omega) p1, h.cell (p := ⟨b1, o1 + k, none⟩) (show b1 < wr.heap.size by omega) hrow, h⟩))
            have HX' := Lib.hid (fun w' (h : Since wr w') => hX.out.below h.low)
            generalize Ve.at_ cost j = x at *
            have HAS := Lib.hid (fun w' (h : Since wr w') => calls_made h (spec_AddScaled wr.heap.size au a1 cu k1 xs (Ta.negR x) (rr L k) hxl HRl.out w' h.low.size (Hur.out.below h.low) ((HRr.out.below (h.low.mono hsz)).mono hsz)))
            rw [show (Ta.negR x).1 = Ta.w64 (-x.1) from rfl, show (Ta.negR x).2 = x.2 from rfl, ← wrap_w64] at HAS
            have hin := Since.refl wr
            have n1 : (k : Int) < (L.length : Int) := by omega
            have n2 : (k : Int) < (B1.length : Int) := by have : B1.length = L.length := G2.out; omega
            have n3 : (j : Int) < (cost.length : Int) := by omega
            clear hstep hstep' hlen hTw g31 g32 g33 hRr p0 p1 hbas hrow hur
            generalize (rr L k) = row at *
            go_wp2_with fail
            go_region_held3 (fun w' => w'.cell? ⟨w.heap.size, 0, none⟩ = some (.slice (some ⟨b1, o1, none⟩) L.length c1) ∧ w'.cell? ⟨w.heap.size, 1, none⟩ = some (.slice (some ⟨b2, o2, none⟩) B1.length c2) ∧ w'.cell? ⟨b2, o2 + k, none⟩ = some (.int .i64 j) ∧ w'.cell? ⟨b3, o3 + j * 2, none⟩ = some (.int .i64 x.1) ∧ w'.cell? ⟨b3, o3 + j * 2 + 1, none⟩ = some (.int .i64 x.2) ∧ w'.cell? ⟨b1, o1 + k, none⟩ = some (.slice a1 row.length k1) ∧ Since wr w') (first | exact Cell.out _ (by assumption) | exact Cell.out _ (Since.drew (by assumption)))
              (first | (go_at_call 94; refine (HAS.out _ (by first | assumption | exact Since.drew (by assumption))).mono ?_; rintro e w' ⟨⟨v, rfl, ho⟩, hin2⟩))
            have HO6 : Hid (OwnRats w.heap.size w' v (Ta.cr ⟨L, B1, C⟩ cost (k + 1)).1) := by rw [Hstep.out]; exact ho.lower hsz
            have HK6 : Hid (Ve.scK xs (Ta.negR x) row = (Ta.cr ⟨L, B1, C⟩ cost (k + 1)).2) := by rw [Hstep.out]; rfl
            have HX6 := HX'.out w' hin2
            have HX6 := Lib.hid HX6
            have HB6 := Lib.hid (hB.out.trans (hin2.low.mono hsz))
            generalize Ve.scK xs (Ta.negR x) row = k6 at *
            clear ho hin hin2 Cell HX' HAS x0 x1 x2
            go_wp2_with fail
            go_roundw
            case rel => exact ⟨k + 1, _, _, rfl, rfl, by omega, by go_num, HK6, HO6, HX6, HB6⟩
            case measure => simp [intOf]; omega
        · have he : k = L.length := by omega
          rw [he] at hOk hO
          have HE2 : Hid (ok = KK) := by show _ = _; rw [← HKK.out, HE.out]; exact hOk.out
          cases ok with
          | false =>
            have Hr : Hid (([] : List R) = RR ∧ false = KK) := ⟨by rw [← HRR.out, Ta.cost_no (by rw [HKK.out]; exact HE2.out.symm)], HE2.out⟩
            have hal := Lib.hid (hB.out.alloc hB.out.size (.cells #[] 30))
            clear HE2 he
            go_wp2_with fail
            go_ret2
            exact ⟨_, ret_two Hr.out.2, by rw [← Hr.out.1]; exact World.ownsRow_made _ #[] 0 hB.out.size (Nat.zero_le _) rfl, hal.out⟩
          | true =>
            have HF : Hid (OwnRats w.heap.size wr u RR) := by
              have h := Ta.cost_yes (t := ⟨L, B1, C⟩) (cost := cost) (by rw [HKK.out]; exact HE2.out.symm)
              rw [HRR.out] at h
              rw [h]; exact hO.out
            clear he
            go_wp2_with fail
            go_ret2
            exact ⟨_, ret_two HE2.out, HF.out, hB.out⟩
    · have hk0 := Ta.cost_len_no (cost := cost) (t := t) hq
      have Hr : Hid (([] : List R) = RR ∧ false = KK) := ⟨by rw [← HRR.out, Ta.cost_no hk0], by rw [← HKK.out, hk0]⟩
      have hne : ((cost.length : Int) != t.cols + (t.rows.length : Int)) = true := by rw [bne_iff_ne]; exact hq
      clear hk0 hq
      have hal := Lib.hid (HB1.out.alloc HB1.out.size (.cells #[] 30))
      go_wp2_with fail
      go_ret2
      exact ⟨_, ret_two Hr.out.2, by rw [← Hr.out.1]; exact World.ownsRow_made _ #[] 0 HB1.out.size (Nat.zero_le _) rfl, hal.out⟩
end Go.Proofs.Ytafkjebfdmgdeaa
