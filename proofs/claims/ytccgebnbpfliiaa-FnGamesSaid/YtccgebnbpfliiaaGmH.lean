/- impl: the values of scaled games, of restricted games. -/
import Derived.Test.YtccgebnbpfliiaaGmE
import Derived.Test.YtccgebnbpfliiaaLkInts
import Derived.Test.YtccgebnbpfliiaaCoMem
import Derived.Test.YtccgebnbpfliiaaCoB
namespace Go.Proofs.Ytccgebnbpfliiaa
open Go.RowKit
open Gm (G)
theorem memR_32 {s : Nat} (h : s < 32) : memR (s : Int) = Co.mem (s : Int) 5 := by unfold memR; rw [show Co.good (s : Int) = true by unfold Co.good; rw [decide_eq_true_iff]; omega]; rfl
theorem mem_below {n s : Nat} (hn : n ≤ 5) (hs : s < 2 ^ n) {x : Int} (hx : x ∈ Co.mem (s : Int) 5) : 0 ≤ x ∧ x < n := by
  rw [Gm.mem_of hn hs] at hx
  exact Co.mem_bd _ n x hx
set_option maxRecDepth 100000 in
set_option maxHeartbeats 2000000 in
theorem impl_scl_value {w : World} {p x y u : Value} {g : G} {kf : Int} {zs : List Int} (h : GmC w x y g) (hu : InInts w u zs) (hf : GmOk g) (hok : Gm.sclOk g kf zs = true) (s : Nat) (hs : s < g.v.length) :
    Calls Try.prog 50 #[.agg #[p, x, y, .int .i64 kf, u], .int .i64 s] w fun e w' => e = .returned (.int .i64 (Gm.sclAt g kf zs s)) ∧ Below w.heap.size w w' := by
  obtain ⟨hv, hk, hzl, hwi⟩ := Gm.sclOk_parts hok
  have hgn := Gm.vld_n hv
  have hz5 : zs.length ≤ 5 := by omega
  have hpow : g.v.length = 2 ^ zs.length := by rw [Gm.vld_pow hv]; congr 1; omega
  have hs2 : s < 2 ^ zs.length := by omega
  have hgl := Gm.vld_len hv
  have hs32 : s < 32 := by omega
  obtain ⟨mm, hmm⟩ : ∃ mm, Co.mem (s : Int) 5 = mm := ⟨_, rfl⟩
  have hat : Gm.sclAt g kf zs s = kf * g.v.getD s 0 + Gm.totM zs mm := by rw [Gm.scl_mem hz5 hs2, hmm]
  have hmb := Gm.mul_bd hk (Gm.vld_at hv hs)
  have hml : mm.length ≤ 5 := by rw [← hmm]; exact Co.mem_len _ 5
  have hin : ∀ x ∈ mm, 0 ≤ x ∧ x < (zs.length : Nat) := fun x hx => mem_below hz5 hs2 (by rw [hmm]; exact hx)
  have hel : ∀ j, j < mm.length → 0 ≤ mm.getD j 0 ∧ mm.getD j 0 < (zs.length : Nat) := fun j hj => by
    rw [List.getD_eq_getElem?_getD, List.getElem?_eq_getElem hj]
    exact hin _ (List.getElem_mem hj)
  have htb : ∀ j, j ≤ mm.length → -2500 ≤ Gm.totM zs (mm.take j) ∧ Gm.totM zs (mm.take j) ≤ 2500 := fun j hj => by
    have h1 := Gm.totM_bd hwi (mm.take j) fun x hx => by have := hin x (List.mem_of_mem_take hx); omega
    have h2 : (mm.take j).length ≤ 5 := by rw [List.length_take]; omega
    omega
  have HEl := Lib.hid hel
  have HTb := Lib.hid htb
  have HTk := Lib.hid (fun j (hj : j < mm.length) => Gm.totM_take zs mm hj)
  have HMem := Lib.hid ((memR_32 hs32).trans hmm)
  have hb := (Below.refl w.heap.size w).alloc (Nat.le_refl _) (.cells #[p, x, y, .int .i64 kf, u] 68)
  have hc := CellsAt.new w #[p, x, y, .int .i64 kf, u] 68
  have e1 := Gm.val_in hs
  have HA := Lib.hid (fun w' (hb : Below w.heap.size w w') => impl_ValueOf (w := w') (s : Int) (h.up hb) hf)
  rw [e1] at HA
  obtain ⟨W, hW⟩ : ∃ W, W = w.alloc (.cells #[p, x, y, .int .i64 kf, u] 68) := ⟨_, rfl⟩
  rw [← hW] at hb hc
  have HC := Lib.hid hc
  have HB := Lib.hid hb
  have HW := Lib.hid hW
  obtain ⟨au, cu, hue, hnu⟩ := hu
  have HU := Lib.hid hnu
  obtain ⟨A, hA⟩ : ∃ A, Gm.sclAt g kf zs s = A := ⟨_, rfl⟩
  rw [hA] at hat ⊢
  generalize g.v.getD s 0 = z at *
  have HAt := Lib.hid hat
  have HS1 : Hid (IntKind.i64.wrap (kf * z) = kf * z) := IntWalk.i64_in _ (by omega)
  clear e1 hat hc hb h hf hv hok hk hzl hwi hgn hpow hs2 hin hel htb hW hnu hA hmm hs
  subst hue
  have hin := (Since.refl W).drew
  have Cell := Lib.hid (fun w' (h : Since W w') => (show w'.cell? ⟨w.heap.size, 1, none⟩ = some x ∧ w'.cell? ⟨w.heap.size, 2, none⟩ = some y ∧ w'.cell? ⟨w.heap.size, 3, none⟩ = some (.int .i64 kf) ∧ Since W w' from
    ⟨h.cell (p := ⟨w.heap.size, 1, none⟩) (lt_of_at HC.out) (HC.out.cell 1), h.cell (p := ⟨w.heap.size, 2, none⟩) (lt_of_at HC.out) (HC.out.cell 2), h.cell (p := ⟨w.heap.size, 3, none⟩) (lt_of_at HC.out) (HC.out.cell 3), h⟩))
  go_enter Try.func50, Try.ntmps50
  go_upto_region 1 with fail
  rw [← HW.out]
  clear HW
  go_cut [5] (fun v wx => v = .int .i64 (kf * z) ∧ Since W wx)
  case first =>
    go_region_held3 (fun w' => w'.cell? ⟨w.heap.size, 1, none⟩ = some x ∧ w'.cell? ⟨w.heap.size, 2, none⟩ = some y ∧ w'.cell? ⟨w.heap.size, 3, none⟩ = some (.int .i64 kf) ∧ Since W w') (first | exact Cell.out _ (by assumption) | exact Cell.out _ (Since.drew (by assumption)))
      (first
        | (go_at_call 23; (with_reducible refine (calls_since (HA.out _ (HB.out.trans ((Since.low (B := W) (by first | assumption | exact Since.drew (by assumption))).mono HB.out.size))) (B := W) (by first | assumption | exact Since.drew (by assumption))).mono ?_); rintro e w' ⟨⟨rfl, _⟩, hin2⟩))
    all_goals
      go_wp2_with fail
      go_meet
      exact ⟨by rw [HS1.out], by assumption⟩
  case rest =>
    obtain ⟨w1, rfl⟩ : ∃ q : World, q = wc := ⟨_, rfl⟩
    obtain ⟨rfl, hs⟩ := hcut
    have HK1 := Lib.hid hs.low
    have hs1 := hs.low.size
    clear hs hin Cell HA HS1
    go_wp2_with fail
    refine (impl_MembersOf s w1).mono ?_
    rintro e w2 ⟨vm, rfl, hom, k⟩
    rw [HMem.out] at hom
    obtain ⟨am, cm, rfl, rm, _, _⟩ := own_reads hom
    have HM := Lib.hid rm
    have HK2 := Lib.hid (HK1.out.trans (k.mono hs1))
    have HE := Lib.hid (HB.out.trans (HK2.out.mono HB.out.size))
    have hc4 := (HC.out.below HK2.out).cell 4
    have HU2 := Lib.hid (HU.out.below HE.out)
    clear k hom rm HK1 HMem
    go_wp2_with fail
    go_loop [5, 19, 7] (fun n i _ => ∃ (j : Nat) (nn : Int), j ≤ mm.length ∧ i = .int .i64 j ∧ n = .int .i64 nn ∧ -260000 ≤ nn ∧ nn ≤ 260000 ∧ Hid (nn = kf * z + Gm.totM zs (mm.take j))) (fun _ i _ => mm.length - (intOf i).toNat)
    case atStart => exact ⟨0, _, Nat.zero_le _, rfl, rfl, by omega, by omega, by show _ = _; simp [Gm.totM]⟩
    case round =>
      obtain ⟨j, nn, hj, rfl, rfl, hn0, hn1, hn2⟩ := hrel
      by_cases hlt : j < mm.length
      · obtain ⟨bm, om, rfl, c1⟩ := HM.out.at j hlt
        have hel := HEl.out j hlt
        have hmj : mm[j] = mm.getD j 0 := by rw [List.getD_eq_getElem?_getD, List.getElem?_eq_getElem hlt]; rfl
        rw [hmj] at c1
        obtain ⟨q, hq⟩ : ∃ q : Nat, mm.getD j 0 = q := ⟨(mm.getD j 0).toNat, by omega⟩
        have hq2 : q < zs.length := by omega
        obtain ⟨b2, u2, rfl, _, c2⟩ := HU2.out q hq2
        have hb3 := HTb.out (j + 1) (by omega)
        have He : Hid (nn + zs.getD q 0 = kf * z + Gm.totM zs (mm.take (j + 1))) := by
          have h3 := HTk.out j hlt
          rw [hq] at h3
          simp only [Int.toNat_natCast] at h3
          have := hn2.out
          show _ = _
          omega
        have hbn : -260000 ≤ nn + zs.getD q 0 ∧ nn + zs.getD q 0 ≤ 260000 := by have := He.out; omega
        rw [hq] at c1
        clear hmj hel hq hb3
        generalize zs.getD q 0 = zz at *
        go_wp2_with fail
        go_round
        case rel => exact ⟨j + 1, nn + zz, by omega, by go_num, rfl, hbn.1, hbn.2, He⟩
        case measure => simp [intOf]; omega
      · have hje : j = mm.length := by omega
        have Hf : Hid (nn = A) := by
          show _ = _
          rw [HAt.out, hn2.out, hje, List.take_length]
        clear hje hn2
        go_wp2_with fail
        go_ret
        exact ⟨ret_int Hf.out, HE.out⟩
theorem wide_all_of {s : Int} (hs : 0 ≤ s ∧ s ≤ 31) {t : Nat} (ht32 : t < 32) (ht : t < 2 ^ (Co.mem s 5).length) :
    Gm.wideT (Co.mem s 5) (Co.mem (t : Int) 5) (Co.mem (t : Int) 5).length = Gm.wide (Co.mem s 5) (t : Int) (Co.mem s 5).length := by
  obtain ⟨n, rfl⟩ : ∃ n : Nat, s = n := ⟨s.toNat, by omega⟩
  exact Gm.wide_all ⟨n, by omega⟩ ⟨t, ht32⟩ ht
theorem wide_step_of {s : Int} (hs : 0 ≤ s ∧ s ≤ 31) {t : Nat} (ht32 : t < 32) (ht : t < 2 ^ (Co.mem s 5).length) (j : Nat) (hj : j < (Co.mem (t : Int) 5).length) :
    0 ≤ (Co.mem (t : Int) 5).getD j 0 ∧ ((Co.mem (t : Int) 5).getD j 0).toNat < (Co.mem s 5).length ∧
    0 ≤ (Co.mem s 5).getD ((Co.mem (t : Int) 5).getD j 0).toNat 0 ∧ (Co.mem s 5).getD ((Co.mem (t : Int) 5).getD j 0).toNat 0 < 5 ∧
    Co.good (Gm.wideT (Co.mem s 5) (Co.mem (t : Int) 5) j) = true ∧
    Co.uni (Gm.wideT (Co.mem s 5) (Co.mem (t : Int) 5) j) (2 ^ ((Co.mem s 5).getD ((Co.mem (t : Int) 5).getD j 0).toNat 0).toNat) 5 = Gm.wideT (Co.mem s 5) (Co.mem (t : Int) 5) (j + 1) := by
  obtain ⟨n, rfl⟩ : ∃ n : Nat, s = n := ⟨s.toNat, by omega⟩
  have hl : (Co.mem (t : Int) 5).length ≤ 5 := Co.mem_len _ 5
  exact Gm.wide_step ⟨n, by omega⟩ ⟨t, ht32⟩ ht ⟨j, by omega⟩ hj
set_option maxRecDepth 100000 in
set_option maxHeartbeats 2000000 in
theorem impl_sub_value {w : World} {p x y u : Value} {g : G} {s : Int} (h : GmC w x y g) (hu : InInts w u (Co.mem s 5)) (hf : GmOk g) (hok : Gm.resOk g s = true) (t : Nat) (ht : t < 2 ^ (Co.mem s 5).length) :
    Calls Try.prog 57 #[.agg #[p, x, y, u], .int .i64 t] w fun e w' => e = .returned (.int .i64 (Gm.resAt g s t)) ∧ Below w.heap.size w w' := by
  obtain ⟨hv, hs1, hs2⟩ := Gm.resOk_parts hok
  have hgl := Gm.vld_len hv
  have hwi := Gm.wide_in hok ht
  have hml : (Co.mem s 5).length ≤ 5 := Co.mem_len s 5
  have hp32 : 2 ^ (Co.mem s 5).length ≤ 2 ^ 5 := Nat.pow_le_pow_right (by omega) hml
  have ht32 : t < 32 := by omega
  have hall := wide_all_of (s := s) (by omega) ht32 ht
  have hstep := wide_step_of (s := s) (by omega) ht32 ht
  have hml2 : (Co.mem (t : Int) 5).length ≤ 5 := Co.mem_len _ 5
  have hmm := memR_32 ht32
  have hra : Gm.resAt g s t = g.v.getD (Gm.wide (Co.mem s 5) (t : Int) (Co.mem s 5).length).toNat 0 := rfl
  obtain ⟨ix, hix⟩ : ∃ ix : Nat, Gm.wide (Co.mem s 5) (t : Int) (Co.mem s 5).length = ix := ⟨_, (Int.toNat_of_nonneg hwi.1).symm⟩
  have hixl : ix < g.v.length := by omega
  rw [hix] at hra hall
  simp only [Int.toNat_natCast] at hra
  have e1 := Gm.val_in hixl
  rw [← hra] at e1
  generalize hA : Gm.resAt g s t = A at *
  have hc := CellsAt.new w #[p, x, y, u] 72
  have hb := (Below.refl w.heap.size w).alloc (Nat.le_refl _) (.cells #[p, x, y, u] 72)
  have HA := Lib.hid (fun w' (hb : Below w.heap.size w w') => impl_ValueOf (w := w') (ix : Int) (h.up hb) hf)
  rw [e1] at HA
  obtain ⟨au, cu, hue, hnu⟩ := hu
  generalize Co.mem s 5 = ms at *
  generalize Co.mem (t : Int) 5 = mt at *
  have HSt := Lib.hid (hstep)
  have HAll := Lib.hid hall
  have HMem := Lib.hid hmm
  obtain ⟨W, hW⟩ : ∃ W, W = w.alloc (.cells #[p, x, y, u] 72) := ⟨_, rfl⟩
  rw [← hW] at hb hc
  have HC := Lib.hid hc
  have HB := Lib.hid hb
  have HW := Lib.hid hW
  have HU := Lib.hid hnu
  clear e1 hc hb h hf hv hok hs1 hs2 hwi hp32 hall hstep hmm hra hix hW hnu hA
  subst hue
  go_enter Try.func57, Try.ntmps57
  go_wp2_with fail
  rw [← HW.out]
  refine (impl_MembersOf t W).mono ?_
  rintro e w2 ⟨vm, rfl, hom, k⟩
  rw [HMem.out] at hom
  obtain ⟨am, cm, rfl, rm, _, _⟩ := own_reads hom
  have HM := Lib.hid rm
  have HK2 := Lib.hid k
  have HE := Lib.hid (HB.out.trans (HK2.out.mono HB.out.size))
  have hc1 := (HC.out.below HK2.out).cell 1
  have hc2 := (HC.out.below HK2.out).cell 2
  have hc3 := (HC.out.below HK2.out).cell 3
  have HU2 := Lib.hid (HU.out.below HE.out)
  have HA2 := Lib.hid (HA.out w2 HE.out)
  clear k hom rm HMem HA HW
  go_wp2_with fail
  go_loop [5, 11, 7] (fun n i _ => ∃ (j : Nat) (nn : Int), j ≤ mt.length ∧ i = .int .i64 j ∧ n = .int .i64 nn ∧ Hid (nn = Gm.wideT ms mt j)) (fun _ i _ => mt.length - (intOf i).toNat)
  case atStart => exact ⟨0, _, Nat.zero_le _, rfl, rfl, (Gm.wideT_zero ms mt).symm⟩
  case round =>
    obtain ⟨j, nn, hj, rfl, rfl, hn2⟩ := hrel
    by_cases hlt : j < mt.length
    · obtain ⟨bm, om, rfl, c1⟩ := HM.out.at j hlt
      obtain ⟨k1, k2, k3, k4, k5, k6⟩ := HSt.out j hlt
      have hmj : mt[j] = mt.getD j 0 := by rw [List.getD_eq_getElem?_getD, List.getElem?_eq_getElem hlt]; rfl
      rw [hmj] at c1
      obtain ⟨q, hq⟩ : ∃ q : Nat, mt.getD j 0 = q := ⟨(mt.getD j 0).toNat, by omega⟩
      rw [hq] at c1 k2 k3 k4 k6
      simp only [Int.toNat_natCast] at k2 k3 k4 k6
      obtain ⟨b2, u2, rfl, _, c2⟩ := HU2.out q k2
      obtain ⟨pp, hpp⟩ : ∃ pp : Nat, ms.getD q 0 = pp := ⟨(ms.getD q 0).toNat, by omega⟩
      have hp5 : pp < 5 := by omega
      rw [hpp] at c2 k6
      simp only [Int.toNat_natCast] at k6
      have HU5 := Lib.hid (fun W => impl_Union nn (2 ^ pp) (by rw [hn2.out]; exact k5) (by have := Co.two_pow pp hp5; unfold Co.good; rw [decide_eq_true_iff]; omega) W)
      have He : Hid (Co.uni nn (2 ^ pp) 5 = Gm.wideT ms mt (j + 1)) := by show _ = _; rw [hn2.out]; exact k6
      clear hmj hpp hq k1 k3 k4 k5 k6
      have HWr : Hid (wrap64 ((2 : Int) ^ pp) = 2 ^ pp) := by have h2 := Co.two_pow pp hp5; show wrap64 _ = _; unfold wrap64; omega
      go_wp2_with fail
      rw [HWr.out]
      refine (HU5.out _).mono ?_
      rintro e w9 ⟨rfl, rfl⟩
      go_wp2_with fail
      go_round
      case rel => exact ⟨j + 1, _, by omega, by go_num, rfl, He⟩
      case measure => simp [intOf]; omega
    · have hje : j = mt.length := by omega
      obtain rfl : nn = (ix : Int) := by rw [hn2.out, hje]; exact HAll.out
      clear hje hn2
      go_wp2_with fail
      refine HA2.out.mono ?_
      rintro e w9 ⟨rfl, k9⟩
      have HE9 := Lib.hid (HE.out.trans (k9.mono HE.out.size))
      clear k9
      go_wp2_with fail
      go_ret
      exact ⟨rfl, HE9.out⟩
end Go.Proofs.Ytccgebnbpfliiaa
