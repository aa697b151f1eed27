/- spec.LeavingRow. -/
import Derived.Test.YtkindblhafejfaaSiA
import Derived.Test.YtkindblhafejfaaTaH
import Derived.Test.YtkindblhafejfaaTaI
namespace Go.Proofs.Ytkindblhafejfaa
open Go.RowKit
open Ve (R)
open Ta (T)
theorem ret_bool2 {a b : Bool} (h : a = b) : (Value.bool a) = .bool b := by rw [h]
set_option maxRecDepth 100000 in
set_option maxHeartbeats 4000000 in
theorem spec_LeavingRow (B : Nat) (a b : Option Addr) (c1 c2 : Nat) (t : T) (c : Int) (hc0 : (Lit.int .i64 c).wf = true) (hn : TabFits t) (w : World) (hBw : B ≤ w.heap.size) (hz : TabIn B w a b t) :
    Calls Try.prog 25 #[tabV a b c1 c2 t, .int .i64 c] w fun e w' => e = .returned (.int .i64 (Ta.lvR t c)) ∧ Below w.heap.size w w' := by
  obtain ⟨RR, hRR⟩ : ∃ RR, Ta.lvR t c = RR := ⟨_, rfl⟩
  rw [hRR]
  have HRR := Lib.hid hRR
  have hb := (Below.refl w.heap.size w).alloc (Nat.le_refl _) (.cells #[.slice a t.rows.length c1, .slice b t.basis.length c2, .int .i64 t.cols] 30)
  have hx := Tri.new w (.slice a t.rows.length c1) (.slice b t.basis.length c2) (.int .i64 t.cols) 30
  have HZ := Lib.hid (hz.mono hBw)
  have Hb := Lib.hid hb
  have Hx := Lib.hid hx
  obtain ⟨hcA, hcB⟩ := i64_bd hc0
  rw [show tabV a b c1 c2 t = .agg #[.slice a t.rows.length c1, .slice b t.basis.length c2, .int .i64 t.cols] from rfl]
  obtain ⟨g, hg⟩ : ∃ g, Ta.good t = g := ⟨_, rfl⟩
  have HG := Lib.hid (fun W (hB : w.heap.size ≤ W.heap.size) h => spec_l6Good w.heap.size a b c1 c2 t hn g hg W hB h)
  rw [show tabV a b c1 c2 t = .agg #[.slice a t.rows.length c1, .slice b t.basis.length c2, .int .i64 t.cols] from rfl] at HG
  obtain ⟨x0, x1, x2, _⟩ := hx.cells
  have Hg := Lib.hid hg
  have hn1 := hn.rows
  have HN := Lib.hid hn
  clear hz hb hx hg hRR hc0 hn
  go_enter Try.func25, Try.ntmps25
  go_wp2_with fail
  refine (HG.out _ Hb.out.size (HZ.out.below Hb.out)).mono ?_
  rintro e w1 ⟨rfl, hb1⟩
  have HB1 := Lib.hid (Hb.out.trans (hb1.mono Hb.out.size))
  have HX1 := Lib.hid (Hx.out.below hb1)
  clear x0 x1 x2 HG hb1 Hb Hx
  cases g with
  | false =>
    have Hr : Hid (-1 = RR) := by show _ = _; rw [← HRR.out, Ta.lv_form Hg.out]
    go_wp2_with fail
    go_ret
    exact ⟨ret_int Hr.out, HB1.out⟩
  | true =>
    obtain ⟨g0, g1, g2, g3⟩ := Ta.good_parts Hg.out
    have G3 := Lib.hid g3
    have G2 := Lib.hid g2
    have HR := Lib.hid HN.out.row
    obtain ⟨x0, x1, x2, _⟩ := HX1.out.cells
    clear g3 g2 HN
    obtain ⟨q, hq⟩ : ∃ q, decide (0 ≤ c ∧ c ≤ t.cols + (t.rows.length : Int) - 1) = q := ⟨_, rfl⟩
    have Hq := Lib.hid hq
    clear hq
    go_wp2_with fail
    refine (l1In_q c 0 (t.cols + (t.rows.length : Int) - 1) q Hq.out _).mono ?_
    rintro e w2 ⟨rfl, rfl⟩
    cases q with
    | false =>
      have Hr : Hid (-1 = RR) := by show _ = _; rw [← HRR.out, Ta.lv_col Hq.out]
      go_wp2_with fail
      go_ret
      exact ⟨ret_int Hr.out, HB1.out⟩
    | true =>
      have hcc := of_decide_eq_true Hq.out
      obtain ⟨cn, rfl⟩ : ∃ n : Nat, c = n := ⟨c.toNat, by omega⟩
      have HE : Hid ((Ta.lv t cn t.rows.length).1 = RR) := by show _ = _; rw [← HRR.out, Ta.lv_end Hg.out Hq.out]
      have hcs : t.cols + (t.rows.length : Int) ≤ 1100000 := by omega
      obtain ⟨L, B1, C⟩ := t
      simp only at g0 g1 hn1 x0 x1 x2 hcc hcs
      obtain ⟨n, hcn⟩ : ∃ n : Nat, C + (L.length : Int) = n := ⟨(C + (L.length : Int)).toNat, by omega⟩
      have hnb : n ≤ 1100000 := by omega
      have hcn2 : cn < n := by omega
      have Hcn := Lib.hid hcn
      have HL0 := Lib.hid (BoxAt.new w2 (0, 0))
      have HX2 := Lib.hid (HX1.out.more (.cells #[.int .i64 0, .int .i64 0] 59))
      have HB2 := Lib.hid (HB1.out.alloc HB1.out.size (.cells #[.int .i64 0, .int .i64 0] 59))
      have hl1 := lt_of_at HX1.out
      have hlw2 := HB1.out.size
      have hlw := HB1.out.size
      clear HX1 HB1 x0 x1 x2 hcc hcs hcn
      go_wp2_with fail
      go_loopw [5, 7] (fun bv i wr => ∃ (k : Nat) (best : Int), k ≤ L.length ∧ -1 ≤ best ∧ best < k ∧ bv = .int .i64 best ∧ i = .int .i64 k ∧ Hid (best = (Ta.lv ⟨L, B1, C⟩ cn k).1) ∧ Hid (BoxAt wr w2.heap.size (Ta.lv ⟨L, B1, C⟩ cn k).2) ∧ Hid (Tri wr w.heap.size (.slice a L.length c1) (.slice b B1.length c2) (.int .i64 C) 30) ∧ Hid (Below w.heap.size w wr)) (fun _ i _ => L.length - (intOf i).toNat)
      case atStart => exact ⟨0, -1, Nat.zero_le _, by omega, by omega, rfl, rfl, rfl, HL0, HX2, HB2⟩
      case round =>
        clear HL0 HX2 HB2
        obtain ⟨k, best, hk, hb0, hb1, rfl, rfl, hBe, hLe, hX, hB⟩ := hrel
        obtain ⟨x0, x1, x2, _⟩ := hX.out.cells
        by_cases hlt : k < L.length
        · have hTw := HZ.out.below hB.out
          obtain ⟨b1, o1, a1, k1, rfl, hl1', hrow, hRr⟩ := hTw.mR k hlt
          obtain ⟨b2, o2, rfl, hl2', hbas⟩ := hTw.mB k (by have := G2.out; simp only at this ⊢; omega)
          obtain ⟨g31, g32, g33⟩ := G3.out k hlt
          simp only at hrow hbas hRr
          have g31' : ((rr L k).length : Int) = C + (L.length : Int) + 1 := g31
          have hrl : (rr L k).length = n + 1 := by have := Hcn.out; omega
          obtain ⟨b3, o3, rfl, hl3, p0, p1⟩ := hRr.at cn (by omega)
          obtain ⟨b4, o4, hh4, _, r0, r1⟩ := hRr.at n (by omega)
          simp only [Option.some.injEq, Addr.mk.injEq] at hh4
          obtain ⟨rfl, rfl, _⟩ := hh4
          rw [hrl] at hrow
          obtain ⟨l0, l1, _, _⟩ := hLe.out.four
          obtain ⟨x, hxx⟩ : ∃ x, Ve.at_ (rr L k) cn = x := ⟨_, rfl⟩
          obtain ⟨y, hyy⟩ : ∃ y, Ve.at_ (rr L k) n = y := ⟨_, rfl⟩
          obtain ⟨le, hle⟩ : ∃ le, (Ta.lv ⟨L, B1, C⟩ cn k).2 = le := ⟨_, rfl⟩
          have Hok : Hid (Ta.lvOk ⟨L, B1, C⟩ cn k = (decide (0 < Ta.sgn x) && Ta.divK y x)) := by
            show _ = _
            unfold Ta.lvOk
            have e : (C + (L.length : Int)).toNat = n := by rw [Hcn.out]; simp
            show (decide (0 < Ta.sgn (Ve.at_ (rr L k) cn)) && Ta.divK (Ve.at_ (rr L k) (C + (L.length : Int)).toNat) (Ve.at_ (rr L k) cn)) = _
            rw [e, hxx, hyy]
          have HQ : Hid (Ta.lvQ ⟨L, B1, C⟩ cn k = Ta.divR y x) := by
            show Ta.divR (Ve.at_ (rr L k) (C + (L.length : Int)).toNat) (Ve.at_ (rr L k) cn) = _
            have e : (C + (L.length : Int)).toNat = n := by rw [Hcn.out]; simp
            rw [e, hxx, hyy]
          have hsz := hB.out.size
          have HXb := Lib.hid (BoxAt.new wr x)
          have HB3 := Lib.hid (hB.out.alloc hsz (.cells #[.int .i64 x.1, .int .i64 x.2] 59))
          have hs1 : IntKind.i64.wrap (C + (L.length : Int)) = (n : Int) := by rw [Hcn.out]; exact IntWalk.i64_in _ (by omega)
          rw [hle] at l0 l1 hLe
          rw [hxx] at p0 p1
          rw [hyy] at r0 r1
          have n1 : (k : Int) < (L.length : Int) := by omega
          have n3 : (cn : Int) < ((n + 1 : Nat) : Int) := by omega
          have n4 : (n : Int) < ((n + 1 : Nat) : Int) := by omega
          have n5 : (n : Int) < (n : Int) + 1 := by omega
          have n6 : (cn : Int) < (n : Int) + 1 := by omega
          clear hxx hyy hRr hTw g31 g31' g32 g33
          have Hbas : Hid (Ta.bas ⟨L, B1, C⟩ k = B1.getD k 0) := rfl
          have Hbest : Hid (∀ bn : Nat, bn < k → ∃ z, B1.getD bn 0 = z ∧ ∀ W, Below w.heap.size w W → W.cell? ⟨b2, o2 + bn, none⟩ = some (.int .i64 z)) := fun bn hbn => ⟨_, rfl, fun W hW => by
            obtain ⟨b', o', e, _, h⟩ := (HZ.out.below hW).mB bn (by have := G2.out; simp only at this ⊢; omega)
            simp only [Option.some.injEq, Addr.mk.injEq] at e
            obtain ⟨rfl, rfl, _⟩ := e
            exact h⟩
          have Hbk : Hid (∀ W, Below w.heap.size w W → W.cell? ⟨b2, o2 + k, none⟩ = some (.int .i64 (B1.getD k 0))) := fun W hW => by
            obtain ⟨b', o', e, _, h⟩ := (HZ.out.below hW).mB k (by have := G2.out; simp only at this ⊢; omega)
            simp only [Option.some.injEq, Addr.mk.injEq] at e
            obtain ⟨rfl, rfl, _⟩ := e
            exact h
          generalize B1.getD k 0 = bk at *
          have n2 : (k : Int) < (B1.length : Int) := by have h : B1.length = L.length := G2.out; omega
          go_upto_region 9 with fail
          obtain ⟨W3, hW3⟩ : ∃ W3, wr.alloc (.cells #[.int .i64 x.1, .int .i64 x.2] 59) = W3 := ⟨_, rfl⟩
          rw [hW3] at HXb HB3 ⊢
          have h3 : Since wr W3 := by rw [← hW3]; exact (Since.refl wr).alloc _
          have hlr : w2.heap.size < wr.heap.size := hLe.out.lt
          have hxr := lt_of_at hX.out
          have hz3 : wr.heap.size < W3.heap.size := HXb.out.lt
          obtain ⟨y0, y1, _, _⟩ := HXb.out.four
          have X3 := Lib.hid (hX.out.below h3.low)
          have L3 := Lib.hid (hLe.out.since h3)
          have Cell := Lib.hid (fun w' (h : Since W3 w') => (show w'.cell? ⟨w.heap.size, 0, none⟩ = some (.slice (some ⟨b1, o1, none⟩) L.length c1) ∧ w'.cell? ⟨w.heap.size, 2, none⟩ = some (.int .i64 C) ∧ w'.cell? ⟨b1, o1 + k, none⟩ = some (.slice (some ⟨b3, o3, none⟩) (n + 1) k1) ∧ w'.cell? ⟨b3, o3 + n * 2, none⟩ = some (.int .i64 y.1) ∧ w'.cell? ⟨b3, o3 + n * 2 + 1, none⟩ = some (.int .i64 y.2) ∧ w'.cell? ⟨wr.heap.size, 0, none⟩ = some (.int .i64 x.1) ∧ w'.cell? ⟨wr.heap.size, 1, none⟩ = some (.int .i64 x.2) ∧ Since W3 w' from
            ⟨h.cell (p := ⟨w.heap.size, 0, none⟩) (show w.heap.size < W3.heap.size by omega) (h3.cell (p := ⟨w.heap.size, 0, none⟩) hxr x0), h.cell (p := ⟨w.heap.size, 2, none⟩) (show w.heap.size < W3.heap.size by omega) (h3.cell (p := ⟨w.heap.size, 2, none⟩) hxr x2), h.cell (p := ⟨b1, o1 + k, none⟩) (show b1 < W3.heap.size by omega) (h3.cell (p := ⟨b1, o1 + k, none⟩) (show b1 < wr.heap.size by omega) hrow), h.cell (p := ⟨b3, o3 + n * 2, none⟩) (show b3 < W3.heap.size by omega) (h3.cell (p := ⟨b3, o3 + n * 2, none⟩) (show b3 < wr.heap.size by omega) r0), h.cell (p := ⟨b3, o3 + n * 2 + 1, none⟩) (show b3 < W3.heap.size by omega) (h3.cell (p := ⟨b3, o3 + n * 2 + 1, none⟩) (show b3 < wr.heap.size by omega) r1), h.cell (p := ⟨wr.heap.size, 0, none⟩) hz3 y0, h.cell (p := ⟨wr.heap.size, 1, none⟩) hz3 y1, h⟩))
          have Hsz := Lib.hid (show w.heap.size < wr.heap.size ∧ w2.heap.size < wr.heap.size ∧ wr.heap.size < W3.heap.size ∧ w.heap.size ≤ wr.heap.size ∧ w.heap.size < w2.heap.size from ⟨hxr, hlr, hz3, hsz, hl1⟩)
          have Y0 := Lib.hid (And.intro y0 y1)
          have hin := Since.refl W3
          clear hW3 h3 x0 x1 x2 hrow r0 r1 p0 p1 l0 l1 y0 y1 hLe hX hB hlr hxr hz3 hl3 hl1' hl2' hbas hsz
          go_cut [9, 10] (fun p b wx => Got W3 (Ta.divR y x).1 (Ta.divR y x).2 (Ta.divK y x) p b wx)
          case first =>
            go_region_held3 (fun w' => w'.cell? ⟨w.heap.size, 0, none⟩ = some (.slice (some ⟨b1, o1, none⟩) L.length c1) ∧ w'.cell? ⟨w.heap.size, 2, none⟩ = some (.int .i64 C) ∧ w'.cell? ⟨b1, o1 + k, none⟩ = some (.slice (some ⟨b3, o3, none⟩) (n + 1) k1) ∧ w'.cell? ⟨b3, o3 + n * 2, none⟩ = some (.int .i64 y.1) ∧ w'.cell? ⟨b3, o3 + n * 2 + 1, none⟩ = some (.int .i64 y.2) ∧ w'.cell? ⟨wr.heap.size, 0, none⟩ = some (.int .i64 x.1) ∧ w'.cell? ⟨wr.heap.size, 1, none⟩ = some (.int .i64 x.2) ∧ Since W3 w') (first | exact Cell.out _ (by assumption) | exact Cell.out _ (Since.drew (by assumption)) | exact Cell.out _ (Own2.since (by assumption)) | exact Cell.out _ (Since.drew (Own2.since (by assumption))) | exact Cell.out _ (Since.alloc (by assumption) _) | exact Cell.out _ (Since.drew (Since.alloc (by assumption) _)) | exact Cell.out _ (Own2.set2 (by assumption) _ _) | exact Cell.out _ (Since.drew (Own2.set2 (by assumption) _ _)))
              (first | (go_at_call 61; refine (calls_own (spec_div y x _) (B := W3) (x := .int .i64 0) (y := .int .i64 0) (t := 59) (by first | assumption | exact Own2.drew (by assumption) | exact Since.new (by assumption) _ _ _ | exact Own2.drew (Since.new (by assumption) _ _ _))).mono ?_; rintro e w' ⟨⟨rfl, _⟩, hin3⟩; obtain ⟨z0, z1, f0, f1⟩ := Own2.own hin3) | (go_at_call 61; refine (calls_since (spec_div y x _) (B := W3) (by first | assumption | exact Since.drew (by assumption))).mono ?_; rintro e w' ⟨⟨rfl, _⟩, hin2⟩))
            all_goals
              go_wp2_with fail
              go_meet
              first
              | exact Got.last (by assumption) _ _ _ _
              | exact Got.set (by assumption) _ _ _
              | exact Got.drew (Got.last (by assumption) _ _ _ _)
              | exact Got.drew (Got.set (by assumption) _ _ _)
          case rest =>
            obtain ⟨wf, rfl⟩ : ∃ wf : World, wf = wc := ⟨_, rfl⟩
            obtain ⟨q2, rfl, rfl, z0, z1, hq2, hq2h, hs2⟩ := hcut
            have hx0 := hs2.cell (p := ⟨wr.heap.size, 0, none⟩) Hsz.out.2.2.1 Y0.out.1
            have hx1 := hs2.cell (p := ⟨wr.heap.size, 1, none⟩) Hsz.out.2.2.1 Y0.out.2
            have Z := Lib.hid (And.intro z0 (And.intro z1 (And.intro hq2 hq2h)))
            have S2 := Lib.hid hs2
            clear z0 z1 hq2 hq2h hs2 Cell hin Y0
            generalize Ta.divR y x = qv at *
            generalize Ta.divK y x = ok at *
            go_wp2_with fail
            refine (spec_l3Sign x _).mono ?_
            rintro e w5 ⟨rfl, hb5⟩
            have S5 := Lib.hid (S2.out.trans hb5)
            have Z5 : Hid (w5.cell? ⟨q2, 0, none⟩ = some (.int .i64 qv.1) ∧ w5.cell? ⟨q2, 1, none⟩ = some (.int .i64 qv.2) ∧ q2 < w5.heap.size) := ⟨by rw [hb5.cell (p := ⟨q2, 0, none⟩) Z.out.2.2.1]; exact Z.out.1, by rw [hb5.cell (p := ⟨q2, 1, none⟩) Z.out.2.2.1]; exact Z.out.2.1, Nat.lt_of_lt_of_le Z.out.2.2.1 hb5.size⟩
            have HB5 : Hid (Below w.heap.size w w5) := HB3.out.trans (S5.out.low.mono (by have := Hsz.out; omega))
            have X5 := Lib.hid (X3.out.below S5.out.low)
            have L5 := Lib.hid (L3.out.since S5.out)
            clear hb5 S2 Z hx0 hx1 HXb X3 L3 HB3
            generalize hsv : Ta.sgn x = sv at *
            by_cases hs0 : 0 < sv
            · have hd2 : decide (sv ≤ 0) = false := by rw [decide_eq_false_iff_not]; omega
              cases ok with
              | false =>
                have hsk := Ta.lv_skip (t := ⟨L, B1, C⟩) (c := cn) (k := k) (by rw [Hok.out]; simp)
                have HBe2 : Hid (best = (Ta.lv ⟨L, B1, C⟩ cn (k + 1)).1) := by show _ = _; rw [hsk]; exact hBe.out
                have HL2 : Hid (BoxAt w5 w2.heap.size (Ta.lv ⟨L, B1, C⟩ cn (k + 1)).2) := by show BoxAt _ _ _; rw [hsk, hle]; exact L5.out
                clear hsk
                go_wp2_with fail
                go_roundw
                case rel => exact ⟨k + 1, best, by omega, hb0, by omega, rfl, by go_num, HBe2, HL2, X5, HB5⟩
                case measure => simp [intOf]; omega
              | true =>
                have Hok2 : Hid (Ta.lvOk ⟨L, B1, C⟩ cn k = true) := by show _ = _; rw [Hok.out, decide_eq_true hs0]; rfl
                obtain ⟨z0, z1, hz2⟩ := Z5.out
                obtain ⟨l0, l1, _, _⟩ := L5.out.four
                go_wp2_with fail
                refine (spec_cmp qv le _).mono ?_
                rintro e w6 ⟨rfl, hb6⟩
                have S6 := Lib.hid (S5.out.trans hb6)
                have Z6 : Hid (w6.cell? ⟨q2, 0, none⟩ = some (.int .i64 qv.1) ∧ w6.cell? ⟨q2, 1, none⟩ = some (.int .i64 qv.2)) := ⟨by rw [hb6.cell (p := ⟨q2, 0, none⟩) hz2]; exact z0, by rw [hb6.cell (p := ⟨q2, 1, none⟩) hz2]; exact z1⟩
                have HB6 : Hid (Below w.heap.size w w6) := HB5.out.trans (hb6.mono HB5.out.size)
                have X6 := Lib.hid (X5.out.below hb6)
                have L6 := Lib.hid (L5.out.below hb6)
                obtain ⟨x0, x1, x2, _⟩ := X6.out.cells
                have hbk := Hbk.out _ HB6.out
                clear hb6 z0 z1 l0 l1 hz2 Z5 S5 X5 L5 HB5
                obtain ⟨tk, htk⟩ : ∃ tk, Ta.takes ⟨L, B1, C⟩ best le qv k = tk := ⟨_, rfl⟩
                have Htk := Lib.hid htk
                clear htk
                have Hdef : Hid (tk = (decide (best < 0) || (decide (Ta.how qv le < 0) || (decide (Ta.how qv le = 0) && decide (bk < B1.getD best.toNat 0))))) := by
                  show _ = _
                  rw [← Htk.out]
                  unfold Ta.takes
                  rw [Hbas.out]
                  rfl
                generalize Ta.how qv le = hw at *
                go_upto_region 12 with fail
                go_cut [93] (fun v wx => v = .bool tk ∧ ∃ d, wx = w6.drewN d)
                case first =>
                  by_cases k1 : best < 0
                  · have e1 : decide (best < 0) = true := by rw [decide_eq_true_iff]; exact k1
                    have Ht : Hid (true = tk) := by show _ = _; rw [Hdef.out, e1]; rfl
                    go_quiet (fail)
                    go_wp2_with fail
                    go_meet
                    exact ⟨ret_bool2 Ht.out, _, rfl⟩
                  · have e1 : decide (best < 0) = false := by rw [decide_eq_false_iff_not]; exact k1
                    by_cases k2 : hw < 0
                    · have e2 : decide (hw < 0) = true := by rw [decide_eq_true_iff]; exact k2
                      have Ht : Hid (true = tk) := by show _ = _; rw [Hdef.out, e2]; simp
                      go_quiet (fail)
                      go_wp2_with fail
                      go_meet
                      exact ⟨ret_bool2 Ht.out, _, rfl⟩
                    · have e2 : decide (hw < 0) = false := by rw [decide_eq_false_iff_not]; exact k2
                      by_cases k3 : hw = 0
                      · obtain ⟨bn, rfl⟩ : ∃ bn : Nat, best = bn := ⟨best.toNat, by omega⟩
                        have e3 : (hw == 0) = true := by rw [k3]; rfl
                        obtain ⟨bz, hbz, hcb⟩ := Hbest.out bn (by omega)
                        have hcb := hcb _ HB6.out
                        have n7 : (bn : Int) < (B1.length : Int) := by omega
                        have Ht : Hid (decide (bk < bz) = tk) := by
                          show _ = _
                          rw [Hdef.out, e1, e2, k3]
                          have : B1.getD (bn : Int).toNat 0 = bz := by rw [← hbz]; simp
                          rw [this]
                          simp
                        clear k3 hbz
                        go_quiet (fail)
                        go_wp2_with fail
                        go_meet
                        exact ⟨ret_bool2 Ht.out, _, rfl⟩
                      · have e3 : (hw == 0) = false := by rw [beq_eq_false_iff_ne]; exact k3
                        have Ht : Hid (false = tk) := by show _ = _; rw [Hdef.out, e1, e2]; simp [k3]
                        go_quiet (fail)
                        go_wp2_with fail
                        go_meet
                        exact ⟨ret_bool2 Ht.out, _, rfl⟩
                case rest =>
                  obtain ⟨w7, hw7⟩ : ∃ q : World, q = wc := ⟨_, rfl⟩
                  rw [← hw7]
                  rw [← hw7] at hcut
                  obtain ⟨rfl, d, rfl⟩ := hcut
                  have L7 : Hid (BoxAt (w6.drewN d) w2.heap.size le) := L6.out
                  have X7 : Hid (Tri (w6.drewN d) w.heap.size (.slice (some ⟨b1, o1, none⟩) L.length c1) (.slice (some ⟨b2, o2, none⟩) B1.length c2) (.int .i64 C) 30) := X6.out
                  have B7 := Lib.hid (below_drewN HB6.out d)
                  have z0 : (w6.drewN d).cell? ⟨q2, 0, none⟩ = some (.int .i64 qv.1) := Z6.out.1
                  have z1 : (w6.drewN d).cell? ⟨q2, 1, none⟩ = some (.int .i64 qv.2) := Z6.out.2
                  clear x0 x1 x2 hbk hw7 L6 X6 HB6 Z6
                  generalize w6.drewN d = w8 at *
                  cases tk with
                  | false =>
                    have hsk := Ta.lv_stay (t := ⟨L, B1, C⟩) (c := cn) (k := k) (by rw [← hBe.out, hle, HQ.out]; exact Htk.out)
                    have HBe2 : Hid (best = (Ta.lv ⟨L, B1, C⟩ cn (k + 1)).1) := by show _ = _; rw [hsk]; exact hBe.out
                    have HL2 : Hid (BoxAt w8 w2.heap.size (Ta.lv ⟨L, B1, C⟩ cn (k + 1)).2) := by show BoxAt _ _ _; rw [hsk, hle]; exact L7.out
                    clear hsk
                    go_wp2_with fail
                    go_roundw
                    case rel => exact ⟨k + 1, best, by omega, hb0, by omega, rfl, by go_num, HBe2, HL2, X7, B7⟩
                    case measure => simp [intOf]; omega
                  | true =>
                    have hye := Ta.lv_yes (t := ⟨L, B1, C⟩) (c := cn) (k := k) Hok2.out (by rw [← hBe.out, hle, HQ.out]; exact Htk.out)
                    have HBe2 : Hid ((k : Int) = (Ta.lv ⟨L, B1, C⟩ cn (k + 1)).1) := by show _ = _; rw [hye]
                    obtain ⟨_, _, f0, f1⟩ := L7.out.four
                    obtain ⟨l0, l1, _, _⟩ := L7.out.four
                    have HL2 : Hid (BoxAt ((w8.setCell ⟨w2.heap.size, 0, none⟩ (.int .i64 qv.1)).setCell ⟨w2.heap.size, 1, none⟩ (.int .i64 qv.2)) w2.heap.size (Ta.lv ⟨L, B1, C⟩ cn (k + 1)).2) := by show BoxAt _ _ _; rw [hye, HQ.out]; exact L7.out.set qv
                    have HX2 : Hid (Tri ((w8.setCell ⟨w2.heap.size, 0, none⟩ (.int .i64 qv.1)).setCell ⟨w2.heap.size, 1, none⟩ (.int .i64 qv.2)) w.heap.size (.slice (some ⟨b1, o1, none⟩) L.length c1) (.slice (some ⟨b2, o2, none⟩) B1.length c2) (.int .i64 C) 30) :=
                      (X7.out.other (p := ⟨w2.heap.size, 0, none⟩) (show w2.heap.size ≠ w.heap.size by have := Hsz.out; omega) _).other (p := ⟨w2.heap.size, 1, none⟩) (show w2.heap.size ≠ w.heap.size by have := Hsz.out; omega) _
                    have HB2 := Lib.hid (low_put B7.out (show w.heap.size ≤ w2.heap.size by have := Hsz.out; omega) 0 1 (.int .i64 qv.1) (.int .i64 qv.2))
                    clear hye
                    go_wp2_with fail
                    go_roundw
                    case rel => exact ⟨k + 1, k, by omega, by omega, by omega, rfl, by go_num, HBe2, HL2, HX2, HB2⟩
                    case measure => simp [intOf]; omega
            · have hd2 : decide (sv ≤ 0) = true := by rw [decide_eq_true_iff]; omega
              have hsk := Ta.lv_skip (t := ⟨L, B1, C⟩) (c := cn) (k := k) (by rw [Hok.out, decide_eq_false hs0]; rfl)
              have HBe2 : Hid (best = (Ta.lv ⟨L, B1, C⟩ cn (k + 1)).1) := by show _ = _; rw [hsk]; exact hBe.out
              have HL2 : Hid (BoxAt w5 w2.heap.size (Ta.lv ⟨L, B1, C⟩ cn (k + 1)).2) := by show BoxAt _ _ _; rw [hsk, hle]; exact L5.out
              clear hsk
              go_wp2_with fail
              go_roundw
              case rel => exact ⟨k + 1, best, by omega, hb0, by omega, rfl, by go_num, HBe2, HL2, X5, HB5⟩
              case measure => simp [intOf]; omega
        · have he : k = L.length := by omega
          have Hr : Hid (best = RR) := by show _ = _; rw [← HE.out, ← he]; exact hBe.out
          go_wp2_with fail
          go_ret
          exact ⟨ret_int Hr.out, hB.out⟩
end Go.Proofs.Ytkindblhafejfaa
