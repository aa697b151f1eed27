/- impl's readGame, ParseGame; conditions: what strconv, the library's search and errors.As read is laid. -/
import Derived.Test.YtambneapofaclaaGreatDoorGtD
namespace Go.Proofs.YtambneapofaclaaGreatDoor
open Go.RowKit
open Gm (G G0)
def gameE (r : G × Int) : G × Option Int := (r.1, if r.2 = -1 then none else some r.2)
theorem gameE_yes (g : G) : gameE (g, -1) = (g, none) := rfl
theorem gameE_no (k : Nat) : gameE (G0, (k : Int)) = (G0, some (k : Int)) := by unfold gameE; rw [if_neg (show ¬ ((k : Int) = -1) by omega)]
/-- Strings that are read from place o of block g on. -/
def StrO (w : World) (g o : Nat) (ss : List ByteArray) : Prop := g < w.heap.size ∧ ∀ j x, ss[j]? = some x → w.cell? ⟨g, o + j, none⟩ = some (.string x)
theorem StrO.below {w w' : World} {g o : Nat} {ss : List ByteArray} (h : StrO w g o ss) (hb : Below w.heap.size w w') : StrO w' g o ss :=
  ⟨Nat.lt_of_lt_of_le h.1 hb.size, fun j x hx => by rw [hb.cell (p := ⟨g, o + j, none⟩) h.1]; exact h.2 j x hx⟩
theorem StrO.set {w : World} {g o b j : Nat} {ss : List ByteArray} {u : Value} (h : StrO w g o ss) (hne : b ≠ g) : StrO (w.setCell ⟨b, j, none⟩ u) g o ss :=
  ⟨by have := h.1; simpa [World.setCell] using this, fun i x hx => by
    rw [World.cell?_of_block (w := w) (Below.heap_setCell _ _ _ _ (Ne.symm hne))]; exact h.2 i x hx⟩
theorem ResGm.wide {lo hi lo' hi' : Nat} {w : World} {v : Value} {g : G} (h : ResGm lo hi w v g) (hl : lo' ≤ lo) (hh : hi ≤ hi') (hs : hi' ≤ w.heap.size) : ResGm lo' hi' w v g := by
  obtain ⟨vV, e, ⟨a, c, e2, hr⟩, _⟩ := h
  exact ⟨vV, e, ⟨a, c, e2, fun hn => ⟨(hr hn).1.raise2 hl, fun g hg => Nat.lt_of_lt_of_le ((hr hn).2 g hg) hh⟩⟩, hs⟩
theorem StrC.of_block {w : World} {g : Nat} {ss : List ByteArray} {t : TypeId} (h : w.heap[g]? = some (.cells (ss.map Value.string).toArray t)) : StrC w g ss :=
  ⟨lt_of_at h, fun j x hx => by simp [World.cell?, h, hx]⟩
set_option maxRecDepth 100000 in
set_option maxHeartbeats 8000000 in
theorem impl_readGame (t : ByteArray) (ht : t.size ≤ 1048576) (w : World) (he : Env w) : Calls Tryz.prog 22 #[.string t] w (MakesGmE (gameE (Gt.parse t)) w) := by
  obtain ⟨W, hW⟩ : ∃ W, W = w.alloc (.cells #[.int .i64 0, .slice none 0 0] 26) := ⟨_, rfl⟩
  have HC0 := Lib.hid (show CellsAt W w.heap.size #[.int .i64 0, .slice none 0 0] 26 from by rw [hW]; exact CellsAt.new _ _ _)
  have HB0 := Lib.hid (show Below w.heap.size w W from by rw [hW]; exact (Below.refl _ _).alloc (Nat.le_refl _) _)
  have HW := Lib.hid hW
  have hWs : W.heap.size = w.heap.size + 1 := by rw [hW]; exact size1 _ _
  have HWs := Lib.hid hWs
  have HEn := Lib.hid he
  have HTL := Lib.hid (impl_textLines t ht W (he.below HB0.out))
  obtain ⟨l0, ls, hcl⟩ := List.exists_cons_of_ne_nil (Gt.clines_ne t)
  have hzl := fun x (h : x ∈ Gt.clines t) => Nat.le_trans (part_size (l := Gt.trim t) h) (Gt.trim_size t)
  have hcn : (Gt.clines t).length ≤ t.size + 1 := by
    have h2 := (Cut.cut_length 10 (Gt.trim t).data.toList []).2
    have h3 : (Gt.clines t).length = (Cut.cut 10 [] (Gt.trim t).data.toList).length := by simp [Gt.clines, Cut.parts]
    have h4 : (Gt.trim t).data.toList.length = (Gt.trim t).size := (Lib.size_eq _).symm
    have h5 := Gt.trim_size t
    omega
  obtain ⟨hP0, hP1⟩ := Gt.parse_by hcl
  rw [hcl] at HTL hzl hcn
  have HLs := Lib.hid hzl
  have HP0 := Lib.hid hP0
  have HP1 := Lib.hid hP1
  have HR0 := Lib.hid (show ∀ r, Gt.parse t = r → gameE (Gt.parse t) = gameE r from fun r h => by rw [h])
  obtain ⟨R, hR⟩ : ∃ R, gameE (Gt.parse t) = R := ⟨_, rfl⟩
  rw [hR] at HR0
  rw [hR]
  obtain ⟨M, hM⟩ : ∃ M, M = (l0 :: ls).length := ⟨_, rfl⟩
  have hMs : M = ls.length + 1 := by rw [hM]; rfl
  have hMl : M ≤ 1048577 := by rw [hM]; omega
  have HMs := Lib.hid hMs
  unfold PartsPost at HTL
  rw [← hM] at HTL
  clear hW hWs he hcl hzl hcn hP0 hP1 hR hM hMs
  go_enter Tryz.func22, Tryz.ntmps22
  go_wp2_with fail
  rw [← HW.out]
  refine HTL.out.mono ?_
  rintro e w1 ⟨g, rfl, hgb, hgl, k⟩
  have HB1 := Lib.hid (HB0.out.trans (k.mono HB0.out.size))
  have HC1 := Lib.hid (HC0.out.below k)
  have HSL := Lib.hid (StrC.of_block hgb)
  have hg2 : w.heap.size < g := by have := HWs.out; omega
  have hl0 : w1.cell? ⟨g, 0, none⟩ = some (.string l0) := HSL.out.2 0 l0 rfl
  have HF := Lib.hid (impl_readPlayers l0 (Nat.le_trans (HLs.out l0 (by simp)) ht) w1 (HEn.out.below HB1.out))
  have hM1 : 0 < M := by have := HMs.out; omega
  clear hgb hgl k HC0 HB0 HW HWs HTL
  rcases hr1 : Gt.rdFirst l0 with _ | n
  · have Hr := Lib.hid (show ((G0, some 0) : G × Option Int) = R from (HR0.out _ (HP0.out hr1)).symm)
    rw [hr1] at HF
    clear HR0 HP0 HP1 HLs hr1
    go_wp2_with fail
    refine HF.out.mono ?_
    rintro e w2 ⟨⟨x, y, rfl, hres⟩, k⟩
    obtain ⟨vV, hxy, ⟨a2, c2, rfl, _⟩, _⟩ := hres
    obtain ⟨rfl, rfl⟩ : x = .int .i64 0 ∧ y = .slice a2 0 c2 := by
      injection hxy with hxy
      exact ⟨by have := congrArg (fun q => q[0]?) hxy; simpa [firstE, firstG, Gm.G0] using this, by have := congrArg (fun q => q[1]?) hxy; simpa [firstE, firstG, Gm.G0] using this⟩
    have HB2 := Lib.hid ((HB1.out.trans (k.mono HB1.out.size)).alloc (by have := (HB1.out.trans (k.mono HB1.out.size)).size; omega) (.cells #[.int .i64 0, .slice a2 0 c2] 26))
    have HC2 := Lib.hid ((HC1.out.below k).more (.cells #[.int .i64 0, .slice a2 0 c2] 26))
    have hev : errV (firstE none).2 = .iface 46 (.agg #[.int .i64 0]) := rfl
    rw [hev]
    clear k hxy HF HC1 HB1 HSL hl0 hev
    have HR := Lib.hid ((HC2.out.s0 (.int .i64 0)).s1 (.slice none 0 0))
    have HBz := Lib.hid ((HB2.out.setCell (p := ⟨w.heap.size, 0, none⟩) (by simp only; omega) (.int .i64 0)).setCell (p := ⟨w.heap.size, 1, none⟩) (by simp only; omega) (.slice none 0 0))
    obtain ⟨d0, d1, e0, e1⟩ := two' HC2.out
    go_wp2_with fail
    refine bodyPost_ret (v := .tuple #[.agg #[.int .i64 0, .slice none 0 0], .iface 46 (.agg #[.int .i64 0])]) (by
      obtain ⟨z0, z1⟩ := two HR.out
      revert z0 z1
      generalize (((w2.alloc (.cells #[.int .i64 0, .slice a2 0 c2] 26)).setCell ⟨w.heap.size, 0, none⟩ (.int .i64 0)).setCell ⟨w.heap.size, 1, none⟩ (.slice none 0 0)) = W4
      intro z0 z1
      simp [results, Tryz.results22, go_sem, z0, z1]) rfl ⟨⟨_, _, by rw [← Hr.out]; rfl, by rw [← Hr.out]; exact ResGm.zero _ _⟩, HBz.out⟩
  · have hn := first_in hr1
    have hzl := zeros_len hn
    have hlin := HP1.out n hr1
    obtain ⟨FR, hFR⟩ : ∃ FR, Gt.fold ls 1 (Gt.zeros n) 0 = FR := ⟨_, rfl⟩
    have HFR := Lib.hid hFR
    have HR1 := Lib.hid hr1
    have HLin := Lib.hid hlin
    rw [hr1] at HF
    clear hr1 hFR hlin HP0 HP1
    go_wp2_with fail
    refine HF.out.mono ?_
    rintro e w2 ⟨⟨x, y, rfl, hres⟩, k⟩
    obtain ⟨rfl, b, cb, rfl, hO, hb0, hb1⟩ := gm_row hres (show (Gt.zeros n).length ≠ 0 by omega)
    replace hO : OwnInts w1.heap.size w2 (.slice (some ⟨b, 0, none⟩) (Gt.zeros n).length cb) (Gt.zeros n) := hO
    obtain ⟨V, hV⟩ : ∃ V, (Gt.zeros n).length = V := ⟨_, rfl⟩
    have HV := Lib.hid hV
    have hgb : g < b := Nat.lt_of_lt_of_le HSL.out.1 hb0
    have hV2 : 2 ≤ V ∧ V ≤ 32 := by rw [← hV]; exact hzl
    obtain ⟨hVa, hVb⟩ := hV2
    obtain ⟨hna, hnb⟩ := hn
    obtain ⟨q5, hq5⟩ : ∃ q5, q5 = w2.heap.size := ⟨_, rfl⟩
    have hbq : b < q5 := by rw [hq5]; exact hb1
    have HQ := Lib.hid (show CellsAt (w2.alloc (.cells #[.int .i64 n, .slice (some ⟨b, 0, none⟩) V cb] 26)) q5 #[.int .i64 n, .slice (some ⟨b, 0, none⟩) V cb] 26 from by rw [hq5]; exact CellsAt.new _ _ _)
    have HBX := HB1.out.trans (k.mono HB1.out.size)
    have HB2 := Lib.hid (HBX.alloc HBX.size (.cells #[.int .i64 n, .slice (some ⟨b, 0, none⟩) V cb] 26))
    have HC2 := Lib.hid ((HC1.out.below k).more (.cells #[.int .i64 n, .slice (some ⟨b, 0, none⟩) V cb] 26))
    have HS2 := Lib.hid ((HSL.out.below k).below ((Below.refl _ _).alloc (Nat.le_refl _) (.cells #[.int .i64 n, .slice (some ⟨b, 0, none⟩) V cb] 26)))
    have HO2 : Hid (OwnInts w.heap.size (w2.alloc (.cells #[.int .i64 n, .slice (some ⟨b, 0, none⟩) V cb] 26)) (.slice (some ⟨b, 0, none⟩) V cb) (Gt.zeros n)) := by
      rw [hV] at hO
      exact (hO.raise2 HB1.out.size).alloc _
    have hsz : ((firstE (some n)).1.v.length = V) := hV
    rw [hsz]
    have hx0 : Value.int .i64 (firstE (some n)).1.n = .int .i64 n := rfl
    rw [hx0]
    have hev : errV (firstE (some n)).2 = .nilIface := rfl
    rw [hev]
    clear k hres hO hb0 hb1 hV hzl HBX HB1 HC1 HSL hl0 HF hsz hx0 hev
    obtain ⟨m1, hm1⟩ : ∃ m1, M = m1 + 1 := ⟨M - 1, by omega⟩
    subst hm1
    obtain ⟨W2, hW2⟩ : ∃ W2, W2 = w2.alloc (.cells #[.int .i64 n, .slice (some ⟨b, 0, none⟩) V cb] 26) := ⟨_, rfl⟩
    have HW2 := Lib.hid hW2
    have HQ5 := Lib.hid hq5
    rw [← hW2] at HQ HB2 HC2 HS2 HO2
    have hml : m1 = ls.length := by have := HMs.out; omega
    have HMl := Lib.hid hml
    clear hml hq5 hW2
    go_upto_region 6 with fail
    rw [← HQ5.out, ← HW2.out]
    go_cut [27, 28, 29] (fun s l i wx => ∃ off : Nat, s = .slice (some ⟨g, off, none⟩) m1 m1 ∧ l = .int .i64 m1 ∧ i = .int .i64 0 ∧ Hid (StrO W2 g off ls) ∧ W2 = wx)
    case first =>
      by_cases hz : m1 = 0
      · subst hz
        have hls : ls = [] := List.eq_nil_of_length_eq_zero HMl.out.symm
        subst hls
        have HSO : Hid (StrO W2 g 0 []) := ⟨HS2.out.1, fun j x hx => by simp at hx⟩
        go_wp2_with fail
        go_meet
        exact ⟨0, rfl, rfl, rfl, HSO, rfl⟩
      · have hq1 : (m1 + 1 = 1) = False := by simp; omega
        have hq2 : (m1 = 0) = False := by simp; omega
        have HSO : Hid (StrO W2 g 1 ls) := ⟨HS2.out.1, fun j x hx => by rw [Nat.add_comm]; exact HS2.out.2 (j + 1) x (by rw [List.getElem?_cons_succ]; exact hx)⟩
        go_wp2_with fail
        go_meet
        exact ⟨1, rfl, rfl, rfl, HSO, rfl⟩
    case rest =>
    obtain ⟨off, rfl, rfl, rfl, HSO, rfl⟩ := hcut
    clear HS2 HW2 HQ5
    go_wp2_with fail
    go_loopw [7, 29] (fun a i wr => ∃ (j a0 : Nat) (vs : List Int), j ≤ m1 ∧ a0 ≤ 31 ∧ a = .int .i64 a0 ∧ i = .int .i64 j ∧ Hid (vs.length = V) ∧ Hid (Gt.fold (ls.drop j) (j + 1) vs a0 = FR) ∧ Hid (CellsAt wr q5 #[.int .i64 n, .slice (some ⟨b, 0, none⟩) V cb] 26) ∧ Hid (OwnInts w.heap.size wr (.slice (some ⟨b, 0, none⟩) V cb) vs) ∧ Hid (CellsAt wr w.heap.size #[.int .i64 0, .slice none 0 0] 26) ∧ Hid (StrO wr g off ls) ∧ Hid (Below w.heap.size w wr))
      (fun _ i _ => m1 - (intOf i).toNat)
    case atStart => exact ⟨0, 0, Gt.zeros n, Nat.zero_le _, by omega, rfl, rfl, HV, HFR, HQ, HO2, HC2, HSO, HB2⟩
    case round =>
      obtain ⟨j, a0, vs, hj, ha0, rfl, rfl, hvl, hfo, hQ, hO, hC, hS, hB⟩ := hrel
      have hqw : q5 < wr.heap.size := lt_of_at hQ.out
      by_cases hlt : j < m1
      · obtain ⟨lk, hlk⟩ : ∃ x, ls[j]? = some x := ⟨ls[j]'(by have := HMl.out; omega), List.getElem?_eq_getElem _⟩
        have hdr : ls.drop j = lk :: ls.drop (j + 1) := by
          obtain ⟨h1, h2⟩ := List.getElem?_eq_some_iff.1 hlk
          rw [List.drop_eq_getElem_cons h1, h2]
        have hlc : wr.cell? ⟨g, off + j, none⟩ = some (.string lk) := hS.out.2 j lk hlk
        have hlz : lk.size ≤ 1048576 := Nat.le_trans (HLs.out lk (List.mem_cons_of_mem _ (List.mem_of_getElem? hlk))) ht
        have HRv := Lib.hid (impl_readValue lk hlz wr (HEn.out.below hB.out))
        have HDr := Lib.hid hdr
        unfold LinePost at HRv
        clear hlk hdr hlz
        rcases hrd : Gt.rdLine lk with _ | ⟨sn, vi⟩
        · have Hr := Lib.hid (show ((G0, some ((j + 1 : Nat) : Int)) : G × Option Int) = R by
            rw [← gameE_no]
            exact (HR0.out _ (Gt.parse_line HLin.out HR1.out (HFR.out.trans (hfo.out.symm.trans (by rw [HDr.out]; exact Gt.fold_bad (by rw [hrd]; rfl)))))).symm)
          rw [hrd] at HRv
          simp only [Option.isSome_none] at HRv
          clear HR0 HLin HLs HR1 HFR hfo HDr hrd
          go_wp2_with fail
          refine HRv.out.mono ?_
          rintro e w3 ⟨si, v2, rfl, _, k⟩
          have HCX := Lib.hid (hC.out.below k)
          have HBX := Lib.hid (hB.out.trans (k.mono hB.out.size))
          clear k hC hB hQ hO hS hlc HRv
          have HR := Lib.hid ((HCX.out.s0 (.int .i64 0)).s1 (.slice none 0 0))
          have HBz := Lib.hid ((HBX.out.setCell (p := ⟨w.heap.size, 0, none⟩) (by simp only; omega) (.int .i64 0)).setCell (p := ⟨w.heap.size, 1, none⟩) (by simp only; omega) (.slice none 0 0))
          obtain ⟨d0, d1, e0, e1⟩ := two' HCX.out
          go_wp2_with fail
          refine bodyPost_ret (v := .tuple #[.agg #[.int .i64 0, .slice none 0 0], .iface 46 (.agg #[.int .i64 ((j : Int) + 1)])]) (by
            obtain ⟨z0, z1⟩ := two HR.out
            revert z0 z1
            generalize ((w3.setCell ⟨w.heap.size, 0, none⟩ (.int .i64 0)).setCell ⟨w.heap.size, 1, none⟩ (.slice none 0 0)) = W4
            intro z0 z1
            simp [results, Tryz.results22, go_sem, z0, z1]) rfl ⟨⟨_, _, by rw [← Hr.out]; rfl, by rw [← Hr.out]; exact ResGm.zero _ _⟩, HBz.out⟩
        · rw [hrd] at HRv
          simp only [Option.isSome_some] at HRv
          have HRd := Lib.hid hrd
          clear hrd
          by_cases hok : a0 < sn ∧ sn < V
          · obtain ⟨hs1, hs2⟩ := hok
            have q1 : decide (sn ≤ a0) = false := by rw [decide_eq_false_iff_not]; omega
            have q1i : decide ((sn : Int) ≤ (a0 : Int)) = false := by rw [decide_eq_false_iff_not]; omega
            have q2 : decide (V ≤ sn) = false := by rw [decide_eq_false_iff_not]; omega
            have q2i : decide ((V : Int) ≤ (sn : Int)) = false := by rw [decide_eq_false_iff_not]; omega
            have HFo : Hid (Gt.fold (ls.drop (j + 1)) (j + 1 + 1) (vs.set sn vi) sn = FR) := by
              show _ = _
              rw [← hfo.out, HDr.out, Gt.fold_good HRd.out hs1 (by rw [hvl.out]; exact hs2)]
            go_wp2_with fail
            refine HRv.out.mono ?_
            rintro e w3 ⟨si, v2, rfl, hsv, k⟩
            obtain ⟨hsv1, hsv2⟩ := hsv trivial
            injection hsv1 with hsv1
            injection hsv1 with hsv3 hsv4
            subst hsv4
            obtain rfl : si = (sn : Int) := by omega
            have hC3 := Lib.hid (hC.out.below k)
            have hB3 := Lib.hid (hB.out.trans (k.mono hB.out.size))
            have hQ3 := Lib.hid (hQ.out.below k)
            have hO3 := Lib.hid (hO.out.below k)
            have hS3 := Lib.hid (hS.out.below k)
            clear hsv hsv2 hsv3 k hC hB hQ hO hS HRv hlc
            obtain ⟨c3, f3⟩ := own_cell (by rw [hvl.out]; exact hO3.out) (s := sn) (by rw [hvl.out]; exact hs2)
            obtain ⟨d0, d1⟩ := two hQ3.out
            have hO4 := Lib.hid (own_put hvl.out hO3.out sn vi)
            have hvl4 : Hid ((vs.set sn vi).length = V) := by show _ = _; rw [List.length_set]; exact hvl.out
            have hQ4 := Lib.hid (hQ3.out.other (p := ⟨b, sn, none⟩) (show b ≠ q5 by omega) (.int .i64 vi))
            have hC4 := Lib.hid (hC3.out.other (p := ⟨b, sn, none⟩) (show b ≠ w.heap.size by omega) (.int .i64 vi))
            have hS4 := Lib.hid (hS3.out.set (b := b) (j := sn) (u := .int .i64 vi) (by omega))
            have hB4 := Lib.hid (hB3.out.setCell (p := ⟨b, sn, none⟩) (show w.heap.size ≤ b by omega) (.int .i64 vi))
            clear hQ3 hC3 hS3 hB3 hO3 hfo HRd HDr
            generalize vs.set sn vi = vs2 at *
            go_wp2_with fail
            go_roundw
            case rel => exact ⟨j + 1, sn, vs2, by omega, by omega, by go_num, by go_num, hvl4, HFo, hQ4, hO4, hC4, hS4, hB4⟩
            case measure => simp [intOf]; omega
          · have Hr := Lib.hid (show ((G0, some ((j + 1 : Nat) : Int)) : G × Option Int) = R by
              rw [← gameE_no]
              exact (HR0.out _ (Gt.parse_line HLin.out HR1.out (HFR.out.trans (hfo.out.symm.trans (by rw [HDr.out]; exact Gt.fold_bad (by rw [HRd.out, hvl.out]; exact decide_eq_false hok)))))).symm)
            clear HR0 HLin HLs HR1 HFR hfo HDr
            have hside : (sn ≤ a0) ∨ (¬ sn ≤ a0 ∧ V ≤ sn) := by omega
            clear hok
            rcases hside with h1 | ⟨h1, h2⟩
            · have q1 : decide (sn ≤ a0) = true := decide_eq_true h1
              have q1i : decide ((sn : Int) ≤ (a0 : Int)) = true := by rw [decide_eq_true_iff]; omega
              go_wp2_with fail
              refine HRv.out.mono ?_
              rintro e w3 ⟨si, v2, rfl, hsv, k⟩
              obtain ⟨hsv1, hsv2⟩ := hsv trivial
              injection hsv1 with hsv1
              injection hsv1 with hsv3 hsv4
              subst hsv4
              obtain rfl : si = (sn : Int) := by omega
              have HCX := Lib.hid (hC.out.below k)
              have HBX := Lib.hid (hB.out.trans (k.mono hB.out.size))
              have hQ3 := Lib.hid (hQ.out.below k)
              obtain ⟨d8, d9⟩ := two hQ3.out
              clear k hC hB hQ hO hS hlc HRv hsv hsv2 hsv3 hQ3
              have HR := Lib.hid ((HCX.out.s0 (.int .i64 0)).s1 (.slice none 0 0))
              have HBz := Lib.hid ((HBX.out.setCell (p := ⟨w.heap.size, 0, none⟩) (by simp only; omega) (.int .i64 0)).setCell (p := ⟨w.heap.size, 1, none⟩) (by simp only; omega) (.slice none 0 0))
              obtain ⟨d0, d1, e0, e1⟩ := two' HCX.out
              go_wp2_with fail
              refine bodyPost_ret (v := .tuple #[.agg #[.int .i64 0, .slice none 0 0], .iface 46 (.agg #[.int .i64 ((j : Int) + 1)])]) (by
                obtain ⟨z0, z1⟩ := two HR.out
                revert z0 z1
                generalize ((w3.setCell ⟨w.heap.size, 0, none⟩ (.int .i64 0)).setCell ⟨w.heap.size, 1, none⟩ (.slice none 0 0)) = W4
                intro z0 z1
                simp [results, Tryz.results22, go_sem, z0, z1]) rfl ⟨⟨_, _, by rw [← Hr.out]; rfl, by rw [← Hr.out]; exact ResGm.zero _ _⟩, HBz.out⟩
            · have q1 : decide (sn ≤ a0) = false := decide_eq_false h1
              have q1i : decide ((sn : Int) ≤ (a0 : Int)) = false := by rw [decide_eq_false_iff_not]; omega
              have q2 : decide (V ≤ sn) = true := decide_eq_true h2
              have q2i : decide ((V : Int) ≤ (sn : Int)) = true := by rw [decide_eq_true_iff]; omega
              go_wp2_with fail
              refine HRv.out.mono ?_
              rintro e w3 ⟨si, v2, rfl, hsv, k⟩
              obtain ⟨hsv1, hsv2⟩ := hsv trivial
              injection hsv1 with hsv1
              injection hsv1 with hsv3 hsv4
              subst hsv4
              obtain rfl : si = (sn : Int) := by omega
              have HCX := Lib.hid (hC.out.below k)
              have HBX := Lib.hid (hB.out.trans (k.mono hB.out.size))
              have hQ3 := Lib.hid (hQ.out.below k)
              obtain ⟨d8, d9⟩ := two hQ3.out
              clear k hC hB hQ hO hS hlc HRv hsv hsv2 hsv3 hQ3
              have HR := Lib.hid ((HCX.out.s0 (.int .i64 0)).s1 (.slice none 0 0))
              have HBz := Lib.hid ((HBX.out.setCell (p := ⟨w.heap.size, 0, none⟩) (by simp only; omega) (.int .i64 0)).setCell (p := ⟨w.heap.size, 1, none⟩) (by simp only; omega) (.slice none 0 0))
              obtain ⟨d0, d1, e0, e1⟩ := two' HCX.out
              go_wp2_with fail
              refine bodyPost_ret (v := .tuple #[.agg #[.int .i64 0, .slice none 0 0], .iface 46 (.agg #[.int .i64 ((j : Int) + 1)])]) (by
                obtain ⟨z0, z1⟩ := two HR.out
                revert z0 z1
                generalize ((w3.setCell ⟨w.heap.size, 0, none⟩ (.int .i64 0)).setCell ⟨w.heap.size, 1, none⟩ (.slice none 0 0)) = W4
                intro z0 z1
                simp [results, Tryz.results22, go_sem, z0, z1]) rfl ⟨⟨_, _, by rw [← Hr.out]; rfl, by rw [← Hr.out]; exact ResGm.zero _ _⟩, HBz.out⟩
      · have hjM : j = m1 := by omega
        subst hjM
        have HFR2 : Hid (Gt.fold ls 1 (Gt.zeros n) 0 = .inr (vs, a0)) := by
          show _ = _
          rw [HFR.out, ← hfo.out, List.drop_of_length_le (by have := HMl.out; omega)]; rfl
        have HG := Lib.hid (show GmC wr (.int .i64 n) (.slice (some ⟨b, 0, none⟩) V cb) ⟨n, vs⟩ from by
          have h9 : OwnInts w.heap.size wr (.slice (some ⟨b, 0, none⟩) V cb) vs := hO.out
          exact GmC.of_own (g := ⟨n, vs⟩) h9)
        have HOK : Hid (GmOk ⟨n, vs⟩) := ⟨by rw [hvl.out]; omega, (show (Lit.int .i64 n).wf = true from WalkArith.wf_i64 (by omega))⟩
        have HFm := Lib.hid (impl_FormatGame HG.out (HEn.out.below hB.out).tabs.pow HOK.out)
        obtain ⟨d0, d1⟩ := two hQ.out
        obtain ⟨tx, htx⟩ : ∃ tx, Gt.text ⟨n, vs⟩ = tx := ⟨_, rfl⟩
        rw [htx] at HFm
        clear HG HOK hfo HFR
        by_cases he : tx = t
        · have Hr := Lib.hid (show ((⟨n, vs⟩, none) : G × Option Int) = R from (HR0.out _ (Gt.parse_yes HLin.out HR1.out HFR2.out (htx.trans he))).symm)
          have hq1 := str_eq he
          have hq2 : (tx.toList != t.toList) = false := by rw [bne, hq1]; rfl
          clear he htx HR0 HLin HLs HR1 HFR2 hS
          go_wp2_with fail
          refine HFm.out.mono ?_
          rintro e w3 ⟨rfl, k⟩
          have hC3 := Lib.hid (hC.out.below k)
          have hB3 := Lib.hid (hB.out.trans (k.mono hB.out.size))
          have hQ3 := Lib.hid (hQ.out.below k)
          have hO3 := Lib.hid (hO.out.below k)
          clear k hC hB hQ hO d0 d1 HFm
          obtain ⟨d0, d1⟩ := two hQ3.out
          obtain ⟨d2, d3, e2, e3⟩ := two' hC3.out
          have HR := Lib.hid ((hC3.out.s0 (.int .i64 n)).s1 (.slice (some ⟨b, 0, none⟩) V cb))
          have HBz := Lib.hid ((hB3.out.setCell (p := ⟨w.heap.size, 0, none⟩) (by simp only; omega) (.int .i64 n)).setCell (p := ⟨w.heap.size, 1, none⟩) (by simp only; omega) (.slice (some ⟨b, 0, none⟩) V cb))
          have hne2 : (Value.slice (some ⟨b, 0, none⟩) V cb).ownBlock ≠ some w.heap.size := by simp [Value.ownBlock]; omega
          have hO5 : w3.ownsRow w.heap.size 3 1 (.slice (some ⟨b, 0, none⟩) V cb) vs.length (vs.map (Value.int .i64)) := hO3.out
          have HY := Lib.hid (owns_set (i := 1) (u := .slice (some ⟨b, 0, none⟩) V cb) (owns_set (i := 0) (u := .int .i64 n) hO5 hne2) hne2)
          clear hO5 hne2
          go_wp2_with fail
          refine bodyPost_ret (v := .tuple #[.agg #[.int .i64 n, .slice (some ⟨b, 0, none⟩) V cb], .nilIface]) (by
            obtain ⟨z0, z1⟩ := two HR.out
            revert z0 z1
            generalize ((w3.setCell ⟨w.heap.size, 0, none⟩ (.int .i64 n)).setCell ⟨w.heap.size, 1, none⟩ (.slice (some ⟨b, 0, none⟩) V cb)) = W4
            intro z0 z1
            simp [results, Tryz.results22, go_sem, z0, z1]) rfl ⟨⟨_, _, by rw [← Hr.out]; rfl, by rw [← Hr.out]; exact ResGm.of_own' (g := ⟨n, vs⟩) rfl HY.out⟩, HBz.out⟩
        · have Hr := Lib.hid (show ((G0, some ((j + 1 : Nat) : Int)) : G × Option Int) = R by
            rw [← gameE_no]
            have h9 := Gt.parse_no HLin.out HR1.out HFR2.out (fun e => he (htx.symm.trans e))
            rw [← HMl.out] at h9
            exact (HR0.out _ h9).symm)
          have hq1 := str_ne he
          have hq2 : (tx.toList != t.toList) = true := by rw [bne, hq1]; rfl
          clear he htx HR0 HLin HLs HR1 HFR2 hS hO
          go_wp2_with fail
          refine HFm.out.mono ?_
          rintro e w3 ⟨rfl, kb⟩
          have HCY := Lib.hid (hC.out.below kb)
          have HBY := Lib.hid (hB.out.trans (kb.mono hB.out.size))
          clear kb hC hB hQ d0 d1 HFm
          have HR := Lib.hid ((HCY.out.s0 (.int .i64 0)).s1 (.slice none 0 0))
          have HBz := Lib.hid ((HBY.out.setCell (p := ⟨w.heap.size, 0, none⟩) (by simp only; omega) (.int .i64 0)).setCell (p := ⟨w.heap.size, 1, none⟩) (by simp only; omega) (.slice none 0 0))
          obtain ⟨d0, d1, e0, e1⟩ := two' HCY.out
          go_wp2_with fail
          refine bodyPost_ret (v := .tuple #[.agg #[.int .i64 0, .slice none 0 0], .iface 46 (.agg #[.int .i64 ((j : Int) + 1)])]) (by
            obtain ⟨z0, z1⟩ := two HR.out
            revert z0 z1
            generalize ((w3.setCell ⟨w.heap.size, 0, none⟩ (.int .i64 0)).setCell ⟨w.heap.size, 1, none⟩ (.slice none 0 0)) = W4
            intro z0 z1
            simp [results, Tryz.results22, go_sem, z0, z1]) rfl ⟨⟨_, _, by rw [← Hr.out]; rfl, by rw [← Hr.out]; exact ResGm.zero _ _⟩, HBz.out⟩
set_option maxRecDepth 100000 in
set_option maxHeartbeats 8000000 in
theorem impl_ParseGame (t : ByteArray) (ht : t.size ≤ 1048576) (w : World) (he : Env w) : Calls Tryz.prog 8 #[.string t] w (MakesGmI (Gt.parse t) w) := by
  obtain ⟨W, hW⟩ : ∃ W, W = w.alloc (.cells #[.int .i64 0, .slice none 0 0] 26) := ⟨_, rfl⟩
  have HC0 := Lib.hid (show CellsAt W w.heap.size #[.int .i64 0, .slice none 0 0] 26 from by rw [hW]; exact CellsAt.new _ _ _)
  have HB0 := Lib.hid (show Below w.heap.size w W from by rw [hW]; exact (Below.refl _ _).alloc (Nat.le_refl _) _)
  have HW := Lib.hid hW
  have hWs : W.heap.size = w.heap.size + 1 := by rw [hW]; exact size1 _ _
  have HWs := Lib.hid hWs
  have HEn := Lib.hid he
  have HRG := Lib.hid (impl_readGame t ht W (he.below HB0.out))
  have hps := Gt.parse_sound t
  obtain ⟨⟨G9, r9⟩, hP9⟩ : ∃ r, Gt.parse t = r := ⟨_, rfl⟩
  rw [hP9] at HRG hps ⊢
  clear hW hWs he hP9
  by_cases h1 : r9 = -1
  · subst h1
    rw [gameE_yes] at HRG
    clear hps
    go_enter Tryz.func8, Tryz.ntmps8
    go_wp2_with fail
    rw [← HW.out]
    refine HRG.out.mono ?_
    rintro e w1 ⟨⟨x, y, rfl, hres⟩, k⟩
    have HC1 := Lib.hid (HC0.out.below k)
    have HB1 := Lib.hid (HB0.out.trans (k.mono HB0.out.size))
    have hev : errV ((G9, none) : G × Option Int).2 = .nilIface := rfl
    rw [hev]
    obtain ⟨a9, c9, rfl, rfl, _⟩ := ResGm.reads_c hres
    obtain ⟨q4, hq4⟩ : ∃ q4, q4 = w1.heap.size := ⟨_, rfl⟩
    obtain ⟨W3, hW3⟩ : ∃ W3, W3 = (w1.alloc (.cells #[.int .i64 G9.n, .slice a9 G9.v.length c9] 26)).alloc (.cells #[.int .i64 0] 46) := ⟨_, rfl⟩
    have HQ := Lib.hid (show CellsAt W3 q4 #[.int .i64 G9.n, .slice a9 G9.v.length c9] 26 from by rw [hW3, hq4]; exact (CellsAt.new _ _ _).more _)
    have HC3 := Lib.hid (show CellsAt W3 w.heap.size #[.int .i64 0, .slice none 0 0] 26 from by rw [hW3]; exact (HC1.out.more _).more _)
    have HB3 := Lib.hid (show Below w.heap.size w W3 from by rw [hW3]; exact (HB1.out.alloc HB1.out.size _).alloc (by rw [size1]; have := HB1.out.size; omega) _)
    have hrg := (hres.rg.more (.cells #[.int .i64 G9.n, .slice a9 G9.v.length c9] 26)).more (.cells #[.int .i64 0] 46)
    rw [← hW3] at hrg
    have hs3 : w1.heap.size ≤ W3.heap.size := by rw [hW3, size2]; omega
    have hsQ := HWs.out
    have hr4 := (hrg.turned (((Turned.refl w.heap.size (w.heap.size + 1) W3).setCell (p := ⟨w.heap.size, 0, none⟩) (Nat.le_refl _) (Nat.lt_succ_self _) (.int .i64 G9.n)).setCell (p := ⟨w.heap.size, 1, none⟩) (Nat.le_refl _) (Nat.lt_succ_self _) (.slice a9 G9.v.length c9)) (.inr (by omega))).get
    have HR4 := Lib.hid (hr4.wide (lo' := w.heap.size) (hi' := ((W3.setCell ⟨w.heap.size, 0, none⟩ (.int .i64 G9.n)).setCell ⟨w.heap.size, 1, none⟩ (.slice a9 G9.v.length c9)).heap.size) (by omega) (by simp only [World.setCell, Array.size_modify]; omega) (Nat.le_refl _))
    have HW3 := Lib.hid hW3
    have HQ4 := Lib.hid hq4
    obtain ⟨m0, m1⟩ := two HQ.out
    obtain ⟨d0, d1, e0, e1⟩ := two' HC3.out
    have HR := Lib.hid ((HC3.out.s0 (.int .i64 G9.n)).s1 (.slice a9 G9.v.length c9))
    have HBz := Lib.hid ((HB3.out.setCell (p := ⟨w.heap.size, 0, none⟩) (by simp only; omega) (.int .i64 G9.n)).setCell (p := ⟨w.heap.size, 1, none⟩) (by simp only; omega) (.slice a9 G9.v.length c9))
    clear hres k hrg hr4 hs3 hsQ HC1 HB1 hW3 hq4 HC0 HB0 HW HWs HRG HC3 HB3
    go_wp2_with fail
    rw [← HQ4.out, ← HW3.out]
    refine (as_nil _ _).mono ?_
    rintro e w2 ⟨rfl, rfl⟩
    go_wp2_with fail
    refine bodyPost_ret (v := .tuple #[.agg #[.int .i64 G9.n, .slice a9 G9.v.length c9], .int .i64 (-1)]) (by
      obtain ⟨z0, z1⟩ := two HR.out
      revert z0 z1
      generalize ((W3.setCell ⟨w.heap.size, 0, none⟩ (.int .i64 G9.n)).setCell ⟨w.heap.size, 1, none⟩ (.slice a9 G9.v.length c9)) = W4
      intro z0 z1
      simp [results, Tryz.results8, go_sem, z0, z1]) rfl ⟨⟨_, _, rfl, HR4.out⟩, HBz.out⟩
  · obtain ⟨hG, hk0⟩ : G9 = G0 ∧ 0 ≤ r9 := by
      rcases hps with ⟨h, _⟩ | h
      · exact absurd h h1
      · exact h
    subst hG
    obtain ⟨kk, rfl⟩ : ∃ kk : Nat, r9 = kk := ⟨r9.toNat, by omega⟩
    rw [gameE_no] at HRG
    clear hps h1 hk0
    go_enter Tryz.func8, Tryz.ntmps8
    go_wp2_with fail
    rw [← HW.out]
    refine HRG.out.mono ?_
    rintro e w1 ⟨⟨x, y, rfl, hres⟩, k⟩
    have HC1 := Lib.hid (HC0.out.below k)
    have HB1 := Lib.hid (HB0.out.trans (k.mono HB0.out.size))
    have hev : errV ((G0, some (kk : Int)) : G × Option Int).2 = .iface 46 (.agg #[.int .i64 kk]) := rfl
    rw [hev]
    obtain ⟨a9, c9, rfl, rfl, _⟩ := ResGm.reads_c hres
    obtain ⟨q6, hq6⟩ : ∃ q6, q6 = w1.heap.size + 1 := ⟨_, rfl⟩
    obtain ⟨W3, hW3⟩ : ∃ W3, W3 = (w1.alloc (.cells #[.int .i64 (G0 : G).n, .slice a9 (G0 : G).v.length c9] 26)).alloc (.cells #[.int .i64 0] 46) := ⟨_, rfl⟩
    have hf3 : CellsAt W3 q6 #[.int .i64 0] 46 := by
      have h9 := CellsAt.new (w1.alloc (.cells #[.int .i64 (G0 : G).n, .slice a9 (G0 : G).v.length c9] 26)) #[.int .i64 0] 46
      rw [size1] at h9
      rw [hW3, hq6]; exact h9
    have hc3 : CellsAt W3 w.heap.size #[.int .i64 0, .slice none 0 0] 26 := by rw [hW3]; exact (HC1.out.more _).more _
    have hb3 : Below w.heap.size w W3 := by rw [hW3]; exact (HB1.out.alloc HB1.out.size _).alloc (by rw [size1]; have := HB1.out.size; omega) _
    have HAs := Lib.hid (as_hit kk ⟨q6, 0, none⟩ (.int .i64 0) W3 (HEn.out.below hb3).er (hf3.cell 0) (hf3.free 0))
    have hs3 := hb3.size
    have hqw : w.heap.size < q6 := by have := HB1.out.size; omega
    have HF3 := Lib.hid hf3
    have HC3 := Lib.hid hc3
    have HB3 := Lib.hid hb3
    have HW3 := Lib.hid hW3
    have HQ6 := Lib.hid hq6
    clear hres k HC1 HB1 hW3 hq6 HC0 HB0 HW HWs HRG hev hf3 hc3 hb3 hs3
    go_wp2_with fail
    rw [← HQ6.out, ← HW3.out]
    refine HAs.out.mono ?_
    rintro e w4 ⟨rfl, hw4⟩
    have HB4 : Hid (Below w.heap.size w w4) := by
      show Below _ _ _
      rw [hw4]
      have hs := HB3.out.size
      exact ((((HB3.out.alloc hs _).alloc (by simp only [size1]; omega) _).alloc (by simp only [size1]; omega) _).alloc (by simp only [size1]; omega) _).setCell (p := ⟨q6, 0, none⟩) (by simp only; omega) _
    have HC4 : Hid (CellsAt w4 w.heap.size #[.int .i64 0, .slice none 0 0] 26) := by
      show CellsAt _ _ _ _
      rw [hw4]
      exact ((((HC3.out.more _).more _).more _).more _).other (p := ⟨q6, 0, none⟩) (show q6 ≠ w.heap.size by omega) _
    have HF4 : Hid (CellsAt w4 q6 #[.int .i64 kk] 46) := by
      show CellsAt _ _ _ _
      rw [hw4]
      have := ((((HF3.out.more (.cells #[.pointer (some ⟨q6, 0, none⟩)] 48)).more (.cells #[.pointer (some ⟨9, 48, none⟩), .pointer (some ⟨W3.heap.size, 0, none⟩), .int .u64 150] 73)).more (.cells #[.pointer (some ⟨9, 48, none⟩), .pointer (some ⟨W3.heap.size, 0, none⟩), .int .u64 150] 73)).more (.cells #[.int .i64 kk] 46)).set 0 (.int .i64 kk)
      simpa using this
    clear HAs HB3 HC3 HF3 HW3 hw4
    obtain ⟨d0, d1, e0, e1⟩ := two' HC4.out
    have hfl : w4.cell? ⟨q6, 0, none⟩ = some (.int .i64 kk) := HF4.out.cell 0
    go_upto_region 4 with fail
    go_cut [3] (fun v wx => v = .int .i64 kk ∧ Hid (CellsAt wx w.heap.size #[.int .i64 0, .slice none 0 0] 26) ∧ Hid (Below w.heap.size w wx))
    case first =>
      have HR := Lib.hid ((HC4.out.s0 (.int .i64 0)).s1 (.slice none 0 0))
      have HBz := Lib.hid ((HB4.out.setCell (p := ⟨w.heap.size, 0, none⟩) (by simp only; omega) (.int .i64 0)).setCell (p := ⟨w.heap.size, 1, none⟩) (by simp only; omega) (.slice none 0 0))
      go_region
      all_goals
        go_wp2_with fail
        go_meet
        exact ⟨rfl, HR.out, HBz.out.drew⟩
    case rest =>
      obtain ⟨w5, rfl⟩ : ∃ q : World, q = wc := ⟨_, rfl⟩
      obtain ⟨rfl, hC5, hB5⟩ := hcut
      clear d0 d1 e0 e1 hfl
      obtain ⟨d0, d1⟩ := two hC5.out
      go_wp2_with fail
      refine bodyPost_ret (v := .tuple #[.agg #[.int .i64 0, .slice none 0 0], .int .i64 kk]) (by simp [results, Tryz.results8, go_sem, d0, d1]) rfl ⟨⟨_, _, rfl, ResGm.zero _ _⟩, hB5.out⟩
end Go.Proofs.YtambneapofaclaaGreatDoor
