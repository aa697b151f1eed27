/- The specification's ParseGame: a text read. -/
import Derived.Test.YtambneapofaclaaGreatDoorGtB
import Derived.Test.YtambneapofaclaaGreatDoorGtA
namespace Go.Proofs.YtambneapofaclaaGreatDoor
open Go.RowKit
open Gm (G G0)
def MakesGmI (r : G × Int) (w : World) (e : Ending) (w' : World) : Prop := (∃ x y : Value, e = .returned (.tuple #[.agg #[x, y], .int .i64 r.2]) ∧ ResGm w.heap.size w'.heap.size w' (.agg #[x, y]) r.1) ∧ Below w.heap.size w w'
/-- Strings that are read from block g. -/
def StrC (w : World) (g : Nat) (ss : List ByteArray) : Prop := g < w.heap.size ∧ ∀ j x, ss[j]? = some x → w.cell? ⟨g, j, none⟩ = some (.string x)
theorem StrC.below {w w' : World} {g : Nat} {ss : List ByteArray} (h : StrC w g ss) (hb : Below w.heap.size w w') : StrC w' g ss :=
  ⟨Nat.lt_of_lt_of_le h.1 hb.size, fun j x hx => by rw [hb.cell (p := ⟨g, j, none⟩) h.1]; exact h.2 j x hx⟩
theorem StrC.set {w : World} {g b j : Nat} {ss : List ByteArray} {u : Value} (h : StrC w g ss) (hne : b ≠ g) : StrC (w.setCell ⟨b, j, none⟩ u) g ss :=
  ⟨by have := h.1; simpa [World.setCell] using this, fun i x hx => by
    rw [World.cell?_of_block (w := w) (Below.heap_setCell _ _ _ _ (Ne.symm hne))]; exact h.2 i x hx⟩
theorem lines_end {t : ByteArray} {ps : List ByteArray} (hp : Cut.parts 10 t.data.toList = ps) {m : Nat} {x : ByteArray} (hm : ps.length = m + 1) (hx : ps[m]? = some x) (h : x.toList.isEmpty = true) : Gt.lines t = ps.take m := by
  have hx0 : x = ⟨#[]⟩ := Gt.bytes_ext (by rw [ByteArray.toList_eq] at h; simpa using h)
  unfold Gt.lines
  rw [hp]
  dsimp only
  rw [if_pos (by rw [List.getLast?_eq_getElem?, hm, show m + 1 - 1 = m by omega, hx, hx0]), List.dropLast_eq_take, hm]
  rfl
theorem lines_all {t : ByteArray} {ps : List ByteArray} (hp : Cut.parts 10 t.data.toList = ps) {m : Nat} {x : ByteArray} (hm : ps.length = m + 1) (hx : ps[m]? = some x) (h : x.toList.isEmpty = false) : Gt.lines t = ps := by
  unfold Gt.lines
  rw [hp]
  dsimp only
  rw [if_neg (by
    rw [List.getLast?_eq_getElem?, hm, show m + 1 - 1 = m by omega, hx]
    intro e
    injection e with e
    rw [e] at h
    exact absurd h (by decide +kernel))]
theorem line_le {t x : ByteArray} (h : x ∈ Gt.lines t) : x.size ≤ t.size := by
  have : x ∈ Cut.parts 10 t.data.toList := by
    unfold Gt.lines at h
    dsimp only at h
    split at h
    · exact List.dropLast_subset _ h
    · exact h
  exact part_size this
theorem lines_len (t : ByteArray) : (Gt.lines t).length ≤ t.size + 1 := by
  have h1 : (Gt.lines t).length ≤ (Cut.parts 10 t.data.toList).length := by
    unfold Gt.lines
    dsimp only
    split
    · rw [List.length_dropLast]; omega
    · exact Nat.le_refl _
  have h2 := (Cut.cut_length 10 t.data.toList []).2
  have h3 : (Cut.parts 10 t.data.toList).length = (Cut.cut 10 [] t.data.toList).length := by simp [Cut.parts]
  have h4 : t.data.toList.length = t.size := (Lib.size_eq t).symm
  omega
theorem zeros_len {n : Int} (h : 1 ≤ n ∧ n ≤ 5) : 2 ≤ (Gt.zeros n).length ∧ (Gt.zeros n).length ≤ 32 := by
  unfold Gt.zeros
  rw [List.length_replicate]
  exact Gm.pow_bd h
theorem first_in {l : ByteArray} {n : Int} (h : Gt.rdFirst l = some n) : 1 ≤ n ∧ n ≤ 5 := by
  rcases Gt.rdFirst_is l with ⟨m, h1, h2, _, h3⟩ | ⟨_, h3⟩
  · rw [h] at h3; injection h3 with h3; omega
  · rw [h] at h3; cases h3
theorem gm_row {lo hi : Nat} {w : World} {x y : Value} {g : G} (h : ResGm lo hi w (.agg #[x, y]) g) (hn : g.v.length ≠ 0) :
    x = .int .i64 g.n ∧ ∃ b c, y = .slice (some ⟨b, 0, none⟩) g.v.length c ∧ OwnInts lo w y g.v ∧ lo ≤ b ∧ b < hi := by
  obtain ⟨vV, e, ⟨a, c, rfl, hr⟩, hs⟩ := h
  injection e with e
  have e0 : x = .int .i64 g.n := by have := congrArg (fun q => q[0]?) e; simpa using this
  have e1 : y = .slice a g.v.length c := by have := congrArg (fun q => q[1]?) e; simpa using this
  subst e0 e1
  obtain ⟨h1, h2⟩ := hr hn
  obtain ⟨a', c', e, _, ha, hz⟩ := own_reads h1
  obtain ⟨b, rfl⟩ := hz (fun e => hn (by rw [e]; rfl))
  injection e with e1 e2 e3
  subst e1 e3
  exact ⟨rfl, b, c, rfl, h1, (ha ⟨b, 0, none⟩ rfl).1, h2 b rfl⟩
theorem own_cell {B : Nat} {w : World} {b c : Nat} {vs : List Int} (h : OwnInts B w (.slice (some ⟨b, 0, none⟩) vs.length c) vs) {s : Nat} (hs : s < vs.length) :
    w.cell? ⟨b, s, none⟩ = some (.int .i64 (vs.getD s 0)) ∧ w.frozen? ⟨b, s, none⟩ = false := by
  refine ⟨?_, World.ownsRow.frozenAt h s⟩
  rw [World.ownsRow.cellAt h s (by omega), List.getElem?_map, List.getD_eq_getElem?_getD, List.getElem?_eq_getElem hs]
  rfl
theorem own_put {B : Nat} {w : World} {b c V : Nat} {vs : List Int} (hv : vs.length = V) (h : OwnInts B w (.slice (some ⟨b, 0, none⟩) V c) vs) (s : Nat) (x : Int) :
    OwnInts B (w.setCell ⟨b, s, none⟩ (.int .i64 x)) (.slice (some ⟨b, 0, none⟩) V c) (vs.set s x) := by
  subst hv
  have := (World.ownsRow.stored h s (.int .i64 x)).1
  unfold OwnInts
  rw [List.length_set, List.map_set]
  exact this
set_option maxRecDepth 100000 in
set_option maxHeartbeats 8000000 in
theorem spec_ParseGame (t : ByteArray) (ht : t.size ≤ 1048576) (w : World) : Calls Tryz.prog 13 #[.string t] w (MakesGmI (Gt.parse t) w) := by
  obtain ⟨W, hW⟩ : ∃ W, W = w.alloc (.cells #[.int .i64 0, .slice none 0 0] 26) := ⟨_, rfl⟩
  have HC0 := Lib.hid (show CellsAt W w.heap.size #[.int .i64 0, .slice none 0 0] 26 from by rw [hW]; exact CellsAt.new _ _ _)
  have HB0 := Lib.hid (show Below w.heap.size w W from by rw [hW]; exact (Below.refl _ _).alloc (Nat.le_refl _) _)
  have HS := Lib.hid (show Calls Tryz.prog 31 #[.string t, .int .u8 10] W (SplitPost 10 t W) from spec_SplitByte t 10 ht W)
  have HW := Lib.hid hW
  have hWs : W.heap.size = w.heap.size + 1 := by rw [hW]; exact size1 _ _
  have HWs := Lib.hid hWs
  have hne := parts_ne 10 t.data.toList
  unfold SplitPost at HS
  obtain ⟨ps, hpp⟩ : ∃ ps, Cut.parts 10 t.data.toList = ps := ⟨_, rfl⟩
  have hpl : ps.length ≤ t.size + 1 := by
    have h2 := (Cut.cut_length 10 t.data.toList []).2
    have h3 : (Cut.parts 10 t.data.toList).length = (Cut.cut 10 [] t.data.toList).length := by simp [Cut.parts]
    have h4 : t.data.toList.length = t.size := (Lib.size_eq t).symm
    rw [← hpp]; omega
  rw [hpp] at HS hne
  obtain ⟨m, hm⟩ : ∃ m, ps.length = m + 1 := ⟨ps.length - 1, by have : ps.length ≠ 0 := fun e => hne (List.eq_nil_of_length_eq_zero e); omega⟩
  obtain ⟨xl, hxl⟩ : ∃ x, ps[m]? = some x := ⟨ps[m], List.getElem?_eq_getElem (by omega)⟩
  have HT := Lib.hid (fun h => lines_end hpp hm hxl h)
  have HA := Lib.hid (fun h => lines_all hpp hm hxl h)
  have HP := Lib.hid hpp
  have HM := Lib.hid hm
  have HXl := Lib.hid hxl
  have HNe := Lib.hid hne
  have hm1 : m ≤ 1048576 := by omega
  have HLs := Lib.hid (fun x (h : x ∈ Gt.lines t) => line_le h)
  have hLl := lines_len t
  obtain ⟨R, hR⟩ : ∃ R, Gt.parse t = R := ⟨_, rfl⟩
  have HR0 := Lib.hid hR
  rw [hR]
  obtain ⟨L, hL⟩ : ∃ L, Gt.lines t = L := ⟨_, rfl⟩
  have HL := Lib.hid hL
  rw [hL] at HLs HT HA hLl
  have HLl := Lib.hid hLl
  clear hW hne hpp hm hxl hpl hR hL hWs hLl
  go_enter Tryz.func13, Tryz.ntmps13
  go_wp2_with fail
  rw [← HW.out]
  refine HS.out.mono ?_
  rintro e w1 ⟨v, rfl, ho, k⟩
  obtain ⟨g, cap, hvv, hcap, hg0, hg1, hcs⟩ := gt_strs ho HNe.out
  rw [HM.out] at hvv hcap
  subst hvv
  have HB1 := Lib.hid (HB0.out.trans (k.mono HB0.out.size))
  have HC1 := Lib.hid (HC0.out.below k)
  have hg2 : w.heap.size < g := by have := HWs.out; omega
  have hlast := hcs m xl HXl.out
  have HCS := Lib.hid (show StrC w1 g ps from ⟨hg1, hcs⟩)
  clear k ho hcs HS HW HC0 HB0 HNe hg0
  obtain ⟨bb, hbb⟩ : ∃ bb, xl.toList.isEmpty = bb := ⟨_, rfl⟩
  have hbb2 : (xl.toList == []) = bb := by rw [← hbb]; cases xl.toList <;> rfl
  have hbb3 : (xl.toList == (⟨#[]⟩ : ByteArray).toList) = bb := by rw [← hbb2, show (⟨#[]⟩ : ByteArray).toList = [] by rw [ByteArray.toList_eq]]
  have HBb := Lib.hid hbb
  go_upto_if 20 with fail
  go_cut [4] (fun v wx => v = .slice (some ⟨g, 0, none⟩) L.length cap ∧ wx = w1)
  case first =>
    cases bb with
    | true =>
      have hLm : L.length = m := by rw [HT.out HBb.out, List.length_take, HM.out]; omega
      have HLm := Lib.hid hLm
      clear hLm
      go_wp2_with fail
      go_meet
      exact ⟨by rw [HLm.out], rfl⟩
    | false =>
      have hLm : L.length = m + 1 := by rw [HA.out HBb.out, HM.out]
      have HLm := Lib.hid hLm
      clear hLm
      go_wp2_with fail
      go_meet
      exact ⟨by rw [HLm.out], rfl⟩
  case rest =>
  obtain ⟨rfl, rfl⟩ := hcut
  have HSL : Hid (StrC wc g L) := by
    refine ⟨HCS.out.1, fun j x hx => HCS.out.2 j x ?_⟩
    cases hb : xl.toList.isEmpty with
    | true =>
      rw [HT.out hb] at hx
      rw [List.getElem?_take] at hx
      split at hx
      · exact hx
      · cases hx
    | false => rw [HA.out hb] at hx; exact hx
  clear hbb hbb2 hbb3 HBb hlast HCS HT HA HM HXl HP
  obtain ⟨w1, rfl⟩ : ∃ q : World, q = wc := ⟨_, rfl⟩
  rcases L with _ | ⟨l0, ls⟩
  · have Hr := Lib.hid (show (G0, (0 : Int)) = R by rw [← HR0.out]; exact (Gt.parse_none HL.out).symm)
    clear HR0 HL HLs HLl HSL
    have HR := Lib.hid ((HC1.out.s0 (.int .i64 0)).s1 (.slice none 0 0))
    have HBz := Lib.hid ((HB1.out.setCell (p := ⟨w.heap.size, 0, none⟩) (by simp only; omega) (.int .i64 0)).setCell (p := ⟨w.heap.size, 1, none⟩) (by simp only; omega) (.slice none 0 0))
    obtain ⟨d0, d1, e0, e1⟩ := two' HC1.out
    go_wp2_with fail
    refine bodyPost_ret (v := .tuple #[.agg #[.int .i64 0, .slice none 0 0], .int .i64 0]) (by
      obtain ⟨z0, z1⟩ := two HR.out
      revert z0 z1
      generalize ((w1.setCell ⟨w.heap.size, 0, none⟩ (.int .i64 0)).setCell ⟨w.heap.size, 1, none⟩ (.slice none 0 0)) = W4
      intro z0 z1
      simp [results, Tryz.results13, go_sem, z0, z1]) rfl ⟨⟨_, _, by rw [← Hr.out], by rw [← Hr.out]; exact ResGm.zero _ _⟩, HBz.out⟩
  · obtain ⟨M, hM⟩ : ∃ M, M = (l0 :: ls).length := ⟨_, rfl⟩
    have hMs : M = ls.length + 1 := by rw [hM]; rfl
    have hMl : M ≤ 1048577 := by have := HLl.out; omega
    have hM1 : 1 ≤ M := by omega
    have hMz : ((M : Int) == 0) = false := by rw [beq_eq_false_iff_ne]; omega
    have HMs := Lib.hid hMs
    have hl0 : w1.cell? ⟨g, 0, none⟩ = some (.string l0) := HSL.out.2 0 l0 rfl
    have HF := Lib.hid (spec_l9First l0 (Nat.le_trans (HLs.out l0 (by simp)) ht) w1)
    rw [← hM]
    clear hM hMs
    rcases hr1 : Gt.rdFirst l0 with _ | n
    · have Hr := Lib.hid (show (G0, (0 : Int)) = R by rw [← HR0.out]; exact (Gt.parse_first HL.out hr1).symm)
      rw [hr1] at HF
      clear HR0 HL HLs HLl hr1
      go_wp2_with fail
      refine HF.out.mono ?_
      rintro e w2 ⟨⟨x, y, rfl, hres⟩, k⟩
      obtain ⟨vV, hxy, ⟨a2, c2, rfl, _⟩, _⟩ := hres
      obtain ⟨rfl, rfl⟩ : x = .int .i64 0 ∧ y = .slice a2 0 c2 := by
        injection hxy with hxy
        exact ⟨by have := congrArg (fun q => q[0]?) hxy; simpa [firstG, Gm.G0] using this, by have := congrArg (fun q => q[1]?) hxy; simpa [firstG, Gm.G0] using this⟩
      have HB2 := Lib.hid ((HB1.out.trans (k.mono HB1.out.size)).alloc (by have := (HB1.out.trans (k.mono HB1.out.size)).size; omega) (.cells #[.int .i64 0, .slice a2 0 c2] 26))
      have HC2 := Lib.hid ((HC1.out.below k).more (.cells #[.int .i64 0, .slice a2 0 c2] 26))
      clear k hxy HF HC1 HB1 HSL hl0
      have HR := Lib.hid ((HC2.out.s0 (.int .i64 0)).s1 (.slice none 0 0))
      have HBz := Lib.hid ((HB2.out.setCell (p := ⟨w.heap.size, 0, none⟩) (by simp only; omega) (.int .i64 0)).setCell (p := ⟨w.heap.size, 1, none⟩) (by simp only; omega) (.slice none 0 0))
      obtain ⟨d0, d1, e0, e1⟩ := two' HC2.out
      go_wp2_with fail
      refine bodyPost_ret (v := .tuple #[.agg #[.int .i64 0, .slice none 0 0], .int .i64 0]) (by
        obtain ⟨z0, z1⟩ := two HR.out
        revert z0 z1
        generalize (((w2.alloc (.cells #[.int .i64 0, .slice a2 0 c2] 26)).setCell ⟨w.heap.size, 0, none⟩ (.int .i64 0)).setCell ⟨w.heap.size, 1, none⟩ (.slice none 0 0)) = W4
        intro z0 z1
        simp [results, Tryz.results13, go_sem, z0, z1]) rfl ⟨⟨_, _, by rw [← Hr.out], by rw [← Hr.out]; exact ResGm.zero _ _⟩, HBz.out⟩
    · have hn := first_in hr1
      have hzl := zeros_len hn
      obtain ⟨FR, hFR⟩ : ∃ FR, Gt.fold ls 1 (Gt.zeros n) 0 = FR := ⟨_, rfl⟩
      have HFR := Lib.hid hFR
      have HR1 := Lib.hid hr1
      rw [hr1] at HF
      clear hr1 hFR
      go_wp2_with fail
      refine HF.out.mono ?_
      rintro e w2 ⟨⟨x, y, rfl, hres⟩, k⟩
      obtain ⟨rfl, b, cb, rfl, hO, hb0, hb1⟩ := gm_row hres (show (Gt.zeros n).length ≠ 0 by omega)
      replace hO : OwnInts w1.heap.size w2 (.slice (some ⟨b, 0, none⟩) (Gt.zeros n).length cb) (Gt.zeros n) := hO
      change w1.heap.size ≤ b at hb0
      obtain ⟨V, hV⟩ : ∃ V, (Gt.zeros n).length = V := ⟨_, rfl⟩
      have HV := Lib.hid hV
      have hgb : g < b := Nat.lt_of_lt_of_le HSL.out.1 hb0
      have hV2 : 2 ≤ V ∧ V ≤ 32 := by rw [← hV]; exact hzl
      obtain ⟨hVa, hVb⟩ := hV2
      obtain ⟨hna, hnb⟩ := hn
      obtain ⟨q5, hq5⟩ : ∃ q5, q5 = w2.heap.size := ⟨_, rfl⟩
      have hbq : b < q5 := by rw [hq5]; exact hb1
      have HQ := Lib.hid (show CellsAt (w2.alloc (.cells #[.int .i64 n, .slice (some ⟨b, 0, none⟩) V cb] 26)) q5 #[.int .i64 n, .slice (some ⟨b, 0, none⟩) V cb] 26 from by rw [hq5]; exact CellsAt.new _ _ _)
      have HBX := HB1.out.trans (k.mono HB1.out.size)
      have HB2 := Lib.hid (HBX.alloc HBX.size (.cells #[.int .i64 n, .slice (some ⟨b, 0, none⟩) V cb] 26))
      have HC2 := Lib.hid ((HC1.out.below k).more (.cells #[.int .i64 n, .slice (some ⟨b, 0, none⟩) V cb] 26))
      have HS2 := Lib.hid ((HSL.out.below k).below ((Below.refl _ _).alloc (Nat.le_refl _) (.cells #[.int .i64 n, .slice (some ⟨b, 0, none⟩) V cb] 26)))
      have HO2 : Hid (OwnInts w.heap.size (w2.alloc (.cells #[.int .i64 n, .slice (some ⟨b, 0, none⟩) V cb] 26)) (.slice (some ⟨b, 0, none⟩) V cb) (Gt.zeros n)) := by
        rw [hV] at hO
        exact (hO.raise2 HB1.out.size).alloc _
      have HQ5 := Lib.hid hq5
      have hsz : ((firstG (some n)).v.length = V) := hV
      rw [hsz]
      clear k hres hO hb0 hb1 hV hzl hq5 HBX HB1 HC1 HSL hl0 HF hsz
      have hx0 : Value.int .i64 (firstG (some n)).n = .int .i64 n := rfl
      rw [hx0]
      clear hx0
      go_wp2_with fail
      rw [← HQ5.out]
      go_loopw [7, 8] (fun a i wr => ∃ (k a0 : Nat) (vs : List Int), 1 ≤ k ∧ k ≤ M ∧ a0 ≤ 31 ∧ a = .int .i64 a0 ∧ i = .int .i64 k ∧ Hid (vs.length = V) ∧ Hid (Gt.fold (ls.drop (k - 1)) k vs a0 = FR) ∧ Hid (CellsAt wr q5 #[.int .i64 n, .slice (some ⟨b, 0, none⟩) V cb] 26) ∧ Hid (OwnInts w.heap.size wr (.slice (some ⟨b, 0, none⟩) V cb) vs) ∧ Hid (CellsAt wr w.heap.size #[.int .i64 0, .slice none 0 0] 26) ∧ Hid (StrC wr g (l0 :: ls)) ∧ Hid (Below w.heap.size w wr))
        (fun _ i _ => M - (intOf i).toNat)
      case atStart => exact ⟨1, 0, Gt.zeros n, Nat.le_refl _, hM1, by omega, rfl, rfl, HV, HFR, HQ, HO2, HC2, HS2, HB2⟩
      case round =>
        obtain ⟨k, a0, vs, hk1, hk, ha0, rfl, rfl, hvl, hfo, hQ, hO, hC, hS, hB⟩ := hrel
        have hqw : q5 < wr.heap.size := lt_of_at hQ.out
        by_cases hlt : k < M
        · obtain ⟨lk, hlk⟩ : ∃ x, (l0 :: ls)[k]? = some x := ⟨(l0 :: ls)[k]'(by have := HMs.out; simp; omega), List.getElem?_eq_getElem _⟩
          have hdr : ls.drop (k - 1) = lk :: ls.drop k := by
            obtain ⟨k2, rfl⟩ : ∃ k2, k = k2 + 1 := ⟨k - 1, by omega⟩
            rw [List.getElem?_cons_succ] at hlk
            obtain ⟨h1, h2⟩ := List.getElem?_eq_some_iff.1 hlk
            rw [show k2 + 1 - 1 = k2 by omega, List.drop_eq_getElem_cons h1, h2]
          have hlc : wr.cell? ⟨g, k, none⟩ = some (.string lk) := hS.out.2 k lk hlk
          have hlz : lk.size ≤ 1048576 := Nat.le_trans (HLs.out lk (List.mem_of_getElem? hlk)) ht
          have hO3 : OwnInts w.heap.size wr (.slice (some ⟨b, 0, none⟩) V cb) vs := hO.out
          have HG : Hid (GmC wr (.int .i64 n) (.slice (some ⟨b, 0, none⟩) V cb) ⟨n, vs⟩) := GmC.of_own (g := ⟨n, vs⟩) hO3
          have HOK : Hid (GmOk ⟨n, vs⟩) := ⟨by rw [hvl.out]; omega, (show (Lit.int .i64 n).wf = true from WalkArith.wf_i64 (by omega))⟩
          have HLn : Hid (∀ w', Since wr w' → Calls Tryz.prog 33 #[.agg #[.int .i64 n, .slice (some ⟨b, 0, none⟩) V cb], .string lk, .int .i64 a0] w' fun e w'' => (∃ (s v : Int), e = .returned (.tuple #[.int .i64 s, .int .i64 v, .bool (Gt.fits a0 V (Gt.rdLine lk))]) ∧ (Gt.fits a0 V (Gt.rdLine lk) = true → Gt.rdLine lk = some (s.toNat, v) ∧ 0 ≤ s)) ∧ Since wr w'') := fun w' hs => by
            have h1 := spec_l9Line (HG.out.up hs.low) HOK.out lk hlz a0
            rw [show (⟨n, vs⟩ : G).v.length = V from hvl.out] at h1
            exact h1.mono fun e w2 ⟨s, v, h2, h3, h4⟩ => ⟨⟨s, v, h2, h3⟩, hs.trans h4⟩
          have HK : Hid (∀ w', Since wr w' → w'.cell? ⟨q5, 0, none⟩ = some (.int .i64 n) ∧ w'.cell? ⟨q5, 1, none⟩ = some (.slice (some ⟨b, 0, none⟩) V cb) ∧ w'.cell? ⟨g, k, none⟩ = some (.string lk) ∧ Since wr w') := fun w' hs =>
            ⟨hs.cell hqw (two hQ.out).1, hs.cell hqw (two hQ.out).2, hs.cell hS.out.1 hlc, hs⟩
          have hin := (Since.refl wr).drew
          obtain ⟨ok, hok⟩ : ∃ ok, Gt.fits a0 V (Gt.rdLine lk) = ok := ⟨_, rfl⟩
          rw [hok] at HLn
          have HOk := Lib.hid hok
          have HDr := Lib.hid hdr
          have hgw : g < wr.heap.size := hS.out.1
          clear hlk hdr hlc hO3 hok
          go_upto_region 13 with fail
          go_cut [9, 10, 11] (fun s v f wx => ∃ (si vi : Int), s = .int .i64 si ∧ v = .int .i64 vi ∧ f = .bool ok ∧ Hid (ok = true → Gt.rdLine lk = some (si.toNat, vi) ∧ 0 ≤ si) ∧ Hid (Since wr wx))
          case first =>
            go_region_held3 (fun w' => w'.cell? ⟨q5, 0, none⟩ = some (.int .i64 n) ∧ w'.cell? ⟨q5, 1, none⟩ = some (.slice (some ⟨b, 0, none⟩) V cb) ∧ w'.cell? ⟨g, k, none⟩ = some (.string lk) ∧ Since wr w') (first | exact HK.out _ (by assumption) | exact HK.out _ (Since.drew (by assumption)))
              (first | (go_at_call 33; refine (HLn.out _ (by first | assumption | exact Since.drew (by assumption))).mono ?_; rintro e w' ⟨⟨s2, v2, rfl, hsv⟩, hin2⟩))
            all_goals
              go_wp2_with fail
              go_meet
              exact ⟨_, _, rfl, rfl, rfl, by assumption, by assumption⟩
          case rest =>
          obtain ⟨w3, rfl⟩ : ∃ q : World, q = wc := ⟨_, rfl⟩
          obtain ⟨si, vi, rfl, rfl, rfl, hsv, hin3⟩ := hcut
          have hC3 := Lib.hid (hC.out.below hin3.out.low)
          have hB3 := Lib.hid (hB.out.trans (hin3.out.low.mono hB.out.size))
          have hQ3 := Lib.hid (hQ.out.below hin3.out.low)
          have hO3 := Lib.hid (hO.out.below hin3.out.low)
          have hS3 := Lib.hid (hS.out.below hin3.out.low)
          clear hin HK HLn HG hC hB hQ hO hS hin3 hqw hgw
          cases ok with
          | false =>
            have Hr := Lib.hid (show (G0, (k : Int)) = R by rw [← HR0.out]; exact (Gt.parse_line HL.out HR1.out (HFR.out.trans (hfo.out.symm.trans (by rw [HDr.out]; exact Gt.fold_bad (by rw [hvl.out]; exact HOk.out))))).symm)
            clear HR0 HL HLs HLl HR1 HFR hfo HDr HOk hsv hQ3 hO3 hS3
            have HR := Lib.hid ((hC3.out.s0 (.int .i64 0)).s1 (.slice none 0 0))
            have HBz := Lib.hid ((hB3.out.setCell (p := ⟨w.heap.size, 0, none⟩) (by simp only; omega) (.int .i64 0)).setCell (p := ⟨w.heap.size, 1, none⟩) (by simp only; omega) (.slice none 0 0))
            obtain ⟨d0, d1, e0, e1⟩ := two' hC3.out
            go_wp2_with fail
            refine bodyPost_ret (v := .tuple #[.agg #[.int .i64 0, .slice none 0 0], .int .i64 k]) (by
              obtain ⟨z0, z1⟩ := two HR.out
              revert z0 z1
              generalize ((w3.setCell ⟨w.heap.size, 0, none⟩ (.int .i64 0)).setCell ⟨w.heap.size, 1, none⟩ (.slice none 0 0)) = W4
              intro z0 z1
              simp [results, Tryz.results13, go_sem, z0, z1]) rfl ⟨⟨_, _, by rw [← Hr.out], by rw [← Hr.out]; exact ResGm.zero _ _⟩, HBz.out⟩
          | true =>
            obtain ⟨hrd, hs0⟩ := hsv.out rfl
            obtain ⟨sn, rfl⟩ : ∃ sn : Nat, si = sn := ⟨si.toNat, by omega⟩
            rw [Int.toNat_natCast] at hrd
            have hft := HOk.out
            rw [hrd] at hft
            obtain ⟨hs1, hs2⟩ : a0 < sn ∧ sn < V := of_decide_eq_true hft
            have HFo : Hid (Gt.fold (ls.drop (k + 1 - 1)) (k + 1) (vs.set sn vi) sn = FR) := by
              show _ = _
              rw [← hfo.out, HDr.out, Gt.fold_good hrd hs1 (by rw [hvl.out]; exact hs2), show k + 1 - 1 = k by omega]
            obtain ⟨c3, f3⟩ := own_cell (by rw [hvl.out]; exact hO3.out) (s := sn) (by rw [hvl.out]; exact hs2)
            obtain ⟨d0, d1⟩ := two hQ3.out
            have hO4 := Lib.hid (own_put hvl.out hO3.out sn vi)
            have hvl4 : Hid ((vs.set sn vi).length = V) := by show _ = _; rw [List.length_set]; exact hvl.out
            have hQ4 := Lib.hid (hQ3.out.other (p := ⟨b, sn, none⟩) (show b ≠ q5 by omega) (.int .i64 vi))
            have hC4 := Lib.hid (hC3.out.other (p := ⟨b, sn, none⟩) (show b ≠ w.heap.size by omega) (.int .i64 vi))
            have hS4 := Lib.hid (hS3.out.set (b := b) (j := sn) (u := .int .i64 vi) (by omega))
            have hB4 := Lib.hid (hB3.out.setCell (p := ⟨b, sn, none⟩) (show w.heap.size ≤ b by omega) (.int .i64 vi))
            clear hrd hft hsv HOk hQ3 hC3 hS3 hB3 hO3 hfo
            generalize vs.set sn vi = vs2 at *
            go_wp2_with fail
            go_roundw
            case rel => exact ⟨k + 1, sn, vs2, by omega, by omega, by omega, by go_num, by go_num, hvl4, HFo, hQ4, hO4, hC4, hS4, hB4⟩
            case measure => simp [intOf]; omega
        · have hkM : k = M := by omega
          subst hkM
          have HFR2 : Hid (Gt.fold ls 1 (Gt.zeros n) 0 = .inr (vs, a0)) := by
            show _ = _
            rw [HFR.out, ← hfo.out, List.drop_of_length_le (by have := HMs.out; omega)]; rfl
          have HG := Lib.hid (show GmC wr (.int .i64 n) (.slice (some ⟨b, 0, none⟩) V cb) ⟨n, vs⟩ from GmC.of_own (g := ⟨n, vs⟩) hO.out)
          have HOK : Hid (GmOk ⟨n, vs⟩) := ⟨by rw [hvl.out]; omega, (show (Lit.int .i64 n).wf = true from WalkArith.wf_i64 (by omega))⟩
          have HFm := Lib.hid (spec_FormatGame HG.out HOK.out)
          obtain ⟨d0, d1⟩ := two hQ.out
          obtain ⟨tx, htx⟩ : ∃ tx, Gt.text ⟨n, vs⟩ = tx := ⟨_, rfl⟩
          rw [htx] at HFm
          clear HG HOK hfo HFR
          by_cases he : tx = t
          · have Hr := Lib.hid (show ((⟨n, vs⟩ : G), (-1 : Int)) = R by rw [← HR0.out]; exact (Gt.parse_yes HL.out HR1.out HFR2.out (htx.trans he)).symm)
            have hq1 := str_eq he
            have hq2 : (tx.toList != t.toList) = false := by rw [bne, hq1]; rfl
            clear he htx HR0 HL HLs HLl HR1 HFR2 hS
            go_wp2_with fail
            refine HFm.out.mono ?_
            rintro e w3 ⟨rfl, k⟩
            have hC3 := Lib.hid (hC.out.below k)
            have hB3 := Lib.hid (hB.out.trans (k.mono hB.out.size))
            have hQ3 := Lib.hid (hQ.out.below k)
            have hO3 := Lib.hid (hO.out.below k)
            clear k hC hB hQ hO d0 d1 HFm
            obtain ⟨d0, d1⟩ := two hQ3.out
            obtain ⟨d2, d3, e2, e3⟩ := two' hC3.out
            have HR := Lib.hid ((hC3.out.s0 (.int .i64 n)).s1 (.slice (some ⟨b, 0, none⟩) V cb))
            have HBz := Lib.hid ((hB3.out.setCell (p := ⟨w.heap.size, 0, none⟩) (by simp only; omega) (.int .i64 n)).setCell (p := ⟨w.heap.size, 1, none⟩) (by simp only; omega) (.slice (some ⟨b, 0, none⟩) V cb))
            have hne2 : (Value.slice (some ⟨b, 0, none⟩) V cb).ownBlock ≠ some w.heap.size := by simp [Value.ownBlock]; omega
            have hO5 : w3.ownsRow w.heap.size 3 1 (.slice (some ⟨b, 0, none⟩) V cb) vs.length (vs.map (Value.int .i64)) := hO3.out
            have HY := Lib.hid (owns_set (i := 1) (u := .slice (some ⟨b, 0, none⟩) V cb) (owns_set (i := 0) (u := .int .i64 n) hO5 hne2) hne2)
            clear hO5 hne2
            go_wp2_with fail
            refine bodyPost_ret (v := .tuple #[.agg #[.int .i64 n, .slice (some ⟨b, 0, none⟩) V cb], .int .i64 (-1)]) (by
              obtain ⟨z0, z1⟩ := two HR.out
              revert z0 z1
              generalize ((w3.setCell ⟨w.heap.size, 0, none⟩ (.int .i64 n)).setCell ⟨w.heap.size, 1, none⟩ (.slice (some ⟨b, 0, none⟩) V cb)) = W4
              intro z0 z1
              simp [results, Tryz.results13, go_sem, z0, z1]) rfl ⟨⟨_, _, by rw [← Hr.out], by rw [← Hr.out]; exact ResGm.of_own' (g := ⟨n, vs⟩) rfl HY.out⟩, HBz.out⟩
          · have Hr := Lib.hid (show (G0, ((k : Nat) : Int)) = R by rw [← HR0.out, HMs.out]; exact (Gt.parse_no HL.out HR1.out HFR2.out (fun e => he (htx.symm.trans e))).symm)
            have hq1 := str_ne he
            have hq2 : (tx.toList != t.toList) = true := by rw [bne, hq1]; rfl
            clear he htx HR0 HL HLs HLl HR1 HFR2 hS hO
            go_wp2_with fail
            refine HFm.out.mono ?_
            rintro e w3 ⟨rfl, kb⟩
            have HCY := Lib.hid (hC.out.below kb)
            have HBY := Lib.hid (hB.out.trans (kb.mono hB.out.size))
            clear kb hC hB hQ d0 d1 HFm
            have HR := Lib.hid ((HCY.out.s0 (.int .i64 0)).s1 (.slice none 0 0))
            have HBz := Lib.hid ((HBY.out.setCell (p := ⟨w.heap.size, 0, none⟩) (by simp only; omega) (.int .i64 0)).setCell (p := ⟨w.heap.size, 1, none⟩) (by simp only; omega) (.slice none 0 0))
            obtain ⟨d0, d1, e0, e1⟩ := two' HCY.out
            go_wp2_with fail
            refine bodyPost_ret (v := .tuple #[.agg #[.int .i64 0, .slice none 0 0], .int .i64 k]) (by
              obtain ⟨z0, z1⟩ := two HR.out
              revert z0 z1
              generalize ((w3.setCell ⟨w.heap.size, 0, none⟩ (.int .i64 0)).setCell ⟨w.heap.size, 1, none⟩ (.slice none 0 0)) = W4
              intro z0 z1
              simp [results, Tryz.results13, go_sem, z0, z1]) rfl ⟨⟨_, _, by rw [← Hr.out], by rw [← Hr.out]; exact ResGm.zero _ _⟩, HBz.out⟩
end Go.Proofs.YtambneapofaclaaGreatDoor
