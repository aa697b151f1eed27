/- spec.IsBalancedCollection, impl.IsBalancedCollection. -/
import Derived.Test.YtjkofijchdibdaaCrB
import Derived.Test.YtjkofijchdibdaaGLb
import Derived.Test.YtjkofijchdibdaaGLp
import Derived.Test.YtjkofijchdibdaaLkRats
import Derived.Test.YtjkofijchdibdaaGLi
import Derived.Test.YtjkofijchdibdaaGLk
set_option maxRecDepth 100000
namespace Go.Proofs.Ytjkofijchdibdaa
open Go.RowKit
open Ve (R)
open Gm (G)
namespace Cr
theorem shape_n {n : Int} {w : List R} (h : ¬ (1 ≤ n ∧ n ≤ 5)) : shapeOk n w = false := by unfold shapeOk; rw [decide_eq_false h]; rfl
theorem shape_len {m : Nat} {w : List R} (h : w.length ≠ 2 ^ m - 1) : shapeOk (m : Int) w = false := by
 unfold shapeOk
 rw [Int.toNat_natCast, decide_eq_false h]
 simp
theorem shape_yes {m : Nat} {w : List R} (h1 : 1 ≤ m) (h2 : m ≤ 5) (h : w.length = 2 ^ m - 1) : shapeOk (m : Int) w = true := by
 unfold shapeOk
 rw [Int.toNat_natCast, decide_eq_true h, Bool.and_true, decide_eq_true_iff]
 omega
end Cr
set_option maxHeartbeats 4000000 in
theorem spec_IsBalancedCollection {w : World} {v : Value} {xs : List R} (n : Int) (g : Bool) (hg : Cr.blc n xs = g) (h : InRats w v xs) (hf : xs.length ≤ 1048576) :
  Calls Try.prog 17 #[.int .i64 n, v] w fun e w' => e = .returned (.bool g) ∧ Below w.heap.size w w' := by
 obtain ⟨a, c, rfl, hi⟩ := h
 have HI := zH hi
 have HG := zH hg
 clear hi hg
 by_cases hn : 1 ≤ n ∧ n ≤ 5
 ·
  obtain ⟨m, rfl⟩ : ∃ m : Nat, n = m := ⟨n.toNat, by omega⟩
  have hm5 : m ≤ 5 := by omega
  have hm1 : 1 ≤ m := by omega
  have Hd := zH (show decide (1 ≤ (m : Int) ∧ (m : Int) ≤ 5) = true by rw [decide_eq_true_iff]; exact hn)
  have HC := zH (fun W => spec_CountCoalitions m hm5 W)
  have hp : 2 ^ m ≤ 32 := Nat.pow_le_pow_right (by omega) hm5
  have hp2 : 2 ^ 1 ≤ 2 ^ m := Nat.pow_le_pow_right (by omega) hm1
  have Hsn := zH (fun h => (Cr.shape_len (m := m) (w := xs) h))
  have Hsy := zH (fun h => (Cr.shape_yes (w := xs) hm1 hm5 h))
  have HSum : Hid (Cr.shapeOk (m : Int) xs = true → Lp.nonneg xs = true → Cr.sumsOk xs m = g) := fun h1 h2 => by
   rw [← HG.out, Cr.blc_is h1 h2, Int.toNat_natCast]
  generalize 2 ^ m = N at *
  clear hn
  by_cases hlen : xs.length = N - 1
  ·
   have d1 : ((xs.length : Int) != (N : Int) - 1) = false := by rw [bne_eq_false_iff_eq]; omega
   have HSh := zH (Hsy.out hlen)
   clear Hsn Hsy hlen
   rcases hnn : Lp.nonneg xs with _ | _
   ·
    have Hr := zH ((Cr.blc_neg hnn).symm.trans HG.out)
    have HN := zH (spec_l5NotNegative w.heap.size a c xs hf false hnn w (Nat.le_refl _) HI.out)
    clear hnn
    go_enter Try.func17, Try.ntmps17
    go_wp2_with fail
    refine (spec_l1In m 1 5 true Hd.out _).mono ?_
    rintro e w1 ⟨rfl, rfl⟩
    go_wp2_with fail
    refine (HC.out _).mono ?_
    rintro e w1 ⟨rfl, rfl⟩
    go_wp2_with fail
    refine HN.out.mono ?_
    rintro e w2 ⟨rfl, hb2⟩
    have HB2 := zH hb2
    clear hb2
    go_wp2_with fail
    go_ret
    exact ⟨ret_bool Hr.out, HB2.out⟩
   ·
    have HS := zH (HSum.out HSh.out hnn)
    have HN := zH (spec_l5NotNegative w.heap.size a c xs hf true hnn w (Nat.le_refl _) HI.out)
    have hl32 : xs.length ≤ 32 ∨ True := .inr trivial
    clear hnn HSum HG hl32
    have heq := eq_rat
    have hneq := ne_rat
    have hgeq := eqg_rat
    go_enter Try.func17, Try.ntmps17
    go_wp2_with fail
    refine (spec_l1In m 1 5 true Hd.out _).mono ?_
    rintro e w1 ⟨rfl, rfl⟩
    go_wp2_with fail
    refine (HC.out _).mono ?_
    rintro e w1 ⟨rfl, rfl⟩
    go_wp2_with fail
    refine HN.out.mono ?_
    rintro e w2 ⟨rfl, hb2⟩
    have HB2 := zH hb2
    clear hb2 HN
    go_wp2_with fail
    go_loopw [5] (fun i wr => ∃ k : Nat, k ≤ m ∧ i = .int .i64 k ∧ Hid (Cr.sumsOk xs k = true) ∧ Hid (Below w.heap.size w wr)) (fun i _ => m - (intOf i).toNat)
    case atStart => exact ⟨0, Nat.zero_le _, rfl, rfl, HB2⟩
    case round =>
     clear HB2
     obtain ⟨k, hk, rfl, hOk, hB⟩ := hrel
     by_cases hlt : k < m
     ·
      obtain ⟨wx, hwx⟩ : ∃ wx : World, wx = wr := ⟨_, rfl⟩
      subst hwx
      have n1 : (k : Int) < (m : Int) := by omega
      have hwx : w.heap.size ≤ wx.heap.size := hB.out.size
      have HU0 : Hid (OwnInts wx.heap.size (wx.alloc (.cells #[] 3)) (.slice (some ⟨wx.heap.size, 0, none⟩) 0 0) (Cr.mrow k 0)) := own_new_ints wx
      have HLo : Hid (Below wx.heap.size wx (wx.alloc (.cells #[] 3))) := (Below.refl _ _).alloc (Nat.le_refl _) _
      have HMm : Hid (∀ j, 1 ≤ j → Cr.mrow k j = Cr.mrow k (j - 1) ++ [Cr.bit (Co.has (j : Int) k)]) := fun j hj => by
       have h := Cr.mrow_more k (j - 1)
       rw [show j - 1 + 1 = j by omega, show ((j - 1 : Nat) : Int) + 1 = j by omega] at h
       exact h
      have HMl : Hid (∀ j, (Cr.mrow k j).length = j) := fun j => Cr.mrow_len k j
      have HDef : Hid (Cr.sumOk xs k = (Lp.idK (Cr.mrow k xs.length) xs && decide (Lp.idR (Cr.mrow k xs.length) xs = (1, 1)))) := rfl
      have HNo : Hid (Cr.sumOk xs k = false → false = g) := fun h => by rw [← HS.out, Cr.sumsOk_no h hlt]
      have HYes : Hid (Cr.sumOk xs k = true → Cr.sumsOk xs (k + 1) = true) := fun h => Cr.sumsOk_yes hOk.out h
      have hl32 : xs.length ≤ 1048576 := hf
      generalize Cr.mrow k = MF at *
      generalize Cr.sumOk xs k = SK at *
      clear hOk
      go_wp2_with fail
      go_loopw [6, 7] (fun v i wr => ∃ (j : Nat) (u : Value), u = v ∧ 1 ≤ j ∧ j ≤ xs.length + 1 ∧ i = .int .i64 j ∧ Hid (OwnInts wx.heap.size wr u (MF (j - 1))) ∧ Hid (Below wx.heap.size wx wr)) (fun _ i _ => xs.length + 1 - (intOf i).toNat)
      case atStart => exact ⟨1, _, rfl, Nat.le_refl _, by omega, rfl, HU0, HLo⟩
      case round =>
       clear HU0 HLo
       obtain ⟨j, u, rfl, hj1, hj, rfl, hU, hLo⟩ := hrel
       by_cases hjt : j ≤ xs.length
       ·
        have n2 : (j : Int) ≤ (xs.length : Int) := by omega
        obtain ⟨hh, hhe⟩ : ∃ hh, Co.has (j : Int) k = hh := ⟨_, rfl⟩
        have HHp := zH (fun W => spec_HasPlayer (j : Int) (by omega) k (by omega) hh hhe W)
        obtain ⟨bb, hbb⟩ : ∃ bb, Cr.bit hh = bb := ⟨_, rfl⟩
        have HBb := zH hbb
        have HMj : Hid (MF j = MF (j - 1) ++ [bb]) := by show _ = _; rw [HMm.out j hj1, hhe, hbb]
        have hMl2 : (MF (j - 1)).length ≤ 1048576 := by have := HMl.out (j - 1); omega
        generalize MF (j - 1) = M at *
        clear hhe hbb
        go_wp2_with fail
        refine (HHp.out _).mono ?_
        rintro e w4 ⟨rfl, rfl⟩
        go_wp2_with fail
        refine (cr_l1Bit hh bb HBb.out _).mono ?_
        rintro e w4 ⟨rfl, rfl⟩
        have HO4 := zH (hLo.out.alloc hLo.out.size (.cells #[.int .i64 bb] 3))
        have HU4 : Hid (OwnInts wx.heap.size (wr.alloc (.cells #[.int .i64 bb] 3)) u M) := hU.out.below ((Below.refl _ _).alloc (Nat.le_refl _) _)
        have Hone := zH ((CellsAt.new wr #[.int .i64 bb] 3).cell 0)
        clear hU hLo
        go_wp2_with (at_builtin; refine wpList_append_int_at rfl _ _ rfl wx.heap.size _ M rfl HU4.out wr.heap.size bb rfl Hone.out (by omega) (by have := HO4.out.size; omega) ?_)
        intro v' w8 hown hgrow _
        rw [← HMj.out] at hown
        obtain ⟨a8, c8, rfl⟩ := ints_shape hown
        have HU8 := zH hown
        have HO8 := zH (HO4.out.grown hgrow HO4.out.size (fun g hg => (World.ownsRow.lt HU4.out g hg).1))
        clear hown hgrow HU4 HO4 Hone
        go_wp2_with fail
        go_roundw
        case rel => exact ⟨j + 1, _, rfl, by omega, by omega, by go_num, HU8, HO8⟩
        case measure => simp [intOf]; omega
       ·
        have hje : j = xs.length + 1 := by omega
        have hU2 := hU.out
        rw [hje, Nat.add_sub_cancel] at hU2
        obtain ⟨au, cu, rfl, hur, hup, _⟩ := own_reads hU2
        have HNr := zH (NumsIn.of_ints (B := wr.heap.size) hur fun q hq => (hup q hq).2)
        have HMln := zH (HMl.out xs.length)
        have hBr : Below w.heap.size w wr := hB.out.trans (hLo.out.mono hwx)
        have HBr := zH hBr
        have HIr := zH ((HI.out.below hBr).mono hBr.size)
        have hwr : w.heap.size ≤ wr.heap.size := hBr.size
        generalize MF xs.length = M at *
        have hMl : M.length ≤ 1048576 := by have := HMln.out; omega
        have HDot := zH (spec_l5Dot wr.heap.size au a cu c M xs hMl hf wr (Nat.le_refl _) HNr.out HIr.out)
        clear hU hU2 hur hup hBr hje hLo HMm HMl hj1 hj
        go_wp2_with fail
        refine HDot.out.mono ?_
        rintro e w5 ⟨rfl, k5⟩
        generalize Lp.idR M xs = D at *
        generalize Lp.idK M xs = K at *
        have hs5 : w.heap.size ≤ w5.heap.size := Nat.le_trans hwr k5.size
        have HB5 := zH ((HBr.out.trans (k5.mono hwr)).alloc hs5 (.cells #[.int .i64 D.1, .int .i64 D.2] 59))
        clear k5 HDot HNr HIr HMln
        rcases K with _ | _
        ·
         have Hr := zH (HNo.out (by rw [HDef.out]; rfl))
         clear HNo HYes HDef
         go_wp2_with fail
         go_quiet (fail)
         go_wp2_with fail
         go_ret
         exact ⟨ret_bool Hr.out, below_drewN HB5.out nq⟩
        ·
         have HQ := zH (BoxAt.new w5 D).four
         have hin := Since.refl (w5.alloc (.cells #[.int .i64 D.1, .int .i64 D.2] 59))
         have Cell : Hid (∀ w', Since (w5.alloc (.cells #[.int .i64 D.1, .int .i64 D.2] 59)) w' → w'.cell? ⟨w5.heap.size, 0, none⟩ = some (.int .i64 D.1) ∧ w'.cell? ⟨w5.heap.size, 1, none⟩ = some (.int .i64 D.2) ∧ Since (w5.alloc (.cells #[.int .i64 D.1, .int .i64 D.2] 59)) w') := fun w' h =>
          ⟨h.cell (p := ⟨w5.heap.size, 0, none⟩) (by rw [size1]; exact Nat.lt_succ_self _) HQ.out.1, h.cell (p := ⟨w5.heap.size, 1, none⟩) (by rw [size1]; exact Nat.lt_succ_self _) HQ.out.2.1, h⟩
         rcases hv : (D.1 == 1 && D.2 == 1) with _ | _
         ·
          have Hr := zH (HNo.out (by
           rw [HDef.out, Bool.true_and, decide_eq_false_iff_not]
           rintro rfl
           simp at hv))
          clear HNo HYes HDef
          go_wp2_with fail
          go_region_held3 (fun w' => w'.cell? ⟨w5.heap.size, 0, none⟩ = some (.int .i64 D.1) ∧ w'.cell? ⟨w5.heap.size, 1, none⟩ = some (.int .i64 D.2) ∧ Since (w5.alloc (.cells #[.int .i64 D.1, .int .i64 D.2] 59)) w') (first | exact Cell.out _ (by assumption) | exact Cell.out _ (Since.drew (by assumption)))
           (first | (go_at_call 30; refine (cmul_since (spec_l3Int 1 _) (B := w5.alloc (.cells #[.int .i64 D.1, .int .i64 D.2] 59)) (by first | assumption | exact Since.drew (by assumption))).mono ?_; rintro e w' ⟨rfl, hin2⟩))
          all_goals
           have Hend := zH (HB5.out.trans ((Since.low (B := w5.alloc (.cells #[.int .i64 D.1, .int .i64 D.2] 59)) (wx := w') (by assumption)).mono HB5.out.size))
           clear HQ hin
           go_wp2_with fail
           go_ret
           exact ⟨ret_bool Hr.out, Hend.out⟩
         ·
          have HOk2 := zH (HYes.out (by
           rw [HDef.out, Bool.true_and, decide_eq_true_iff]
           rw [Bool.and_eq_true, beq_iff_eq, beq_iff_eq] at hv
           exact Prod.ext hv.1 hv.2))
          clear HNo HYes HDef
          go_wp2_with fail
          go_region_held3 (fun w' => w'.cell? ⟨w5.heap.size, 0, none⟩ = some (.int .i64 D.1) ∧ w'.cell? ⟨w5.heap.size, 1, none⟩ = some (.int .i64 D.2) ∧ Since (w5.alloc (.cells #[.int .i64 D.1, .int .i64 D.2] 59)) w') (first | exact Cell.out _ (by assumption) | exact Cell.out _ (Since.drew (by assumption)))
           (first | (go_at_call 30; refine (cmul_since (spec_l3Int 1 _) (B := w5.alloc (.cells #[.int .i64 D.1, .int .i64 D.2] 59)) (by first | assumption | exact Since.drew (by assumption))).mono ?_; rintro e w' ⟨rfl, hin2⟩))
          all_goals
           have Hend := zH (HB5.out.trans ((Since.low (B := w5.alloc (.cells #[.int .i64 D.1, .int .i64 D.2] 59)) (wx := w') (by assumption)).mono HB5.out.size))
           clear HQ hin
           go_wp2_with fail
           go_roundw
           case rel => exact ⟨k + 1, by omega, by go_num, HOk2, Hend⟩
           case measure => simp [intOf]; omega
     ·
      have hke : k = m := by omega
      have Hr : Hid (true = g) := by show _ = _; rw [← HS.out, ← hke, hOk.out]
      clear hke
      go_wp2_with fail
      go_ret
      exact ⟨ret_bool Hr.out, hB.out⟩
  ·
   have d1 : ((xs.length : Int) != (N : Int) - 1) = true := by rw [bne_iff_ne]; omega
   have Hr := zH ((Cr.blc_shape (Hsn.out hlen)).symm.trans HG.out)
   clear hlen
   go_enter Try.func17, Try.ntmps17
   go_wp2_with fail
   refine (spec_l1In m 1 5 true Hd.out _).mono ?_
   rintro e w1 ⟨rfl, rfl⟩
   go_wp2_with fail
   refine (HC.out _).mono ?_
   rintro e w1 ⟨rfl, rfl⟩
   go_wp2_with fail
   go_ret
   exact ⟨ret_bool Hr.out, Below.refl _ _⟩
 ·
  have Hd := zH (show decide (1 ≤ n ∧ n ≤ 5) = false by rw [decide_eq_false_iff_not]; exact hn)
  have Hr := zH ((Cr.blc_shape (Cr.shape_n (w := xs) hn)).symm.trans HG.out)
  clear hn
  go_enter Try.func17, Try.ntmps17
  go_wp2_with fail
  refine (spec_l1In n 1 5 false Hd.out _).mono ?_
  rintro e w1 ⟨rfl, rfl⟩
  go_wp2_with fail
  go_ret
  exact ⟨ret_bool Hr.out, Below.refl _ _⟩
theorem cr_cells (b : Nat) : ∀ (L : List (List Int)), (∀ r ∈ L, r.length ≤ b) → cellsOf L ≤ L.length * b
 | [], _ => by simp [cellsOf]
 | r :: L, h => by
  have h1 := cr_cells b L fun x hx => h x (List.mem_cons_of_mem _ hx)
  have h2 := h r (by simp)
  simp only [cellsOf, List.length_cons, Nat.succ_mul]
  omega
theorem bal_small (g : G) : lpN (Cr.bal g) ≤ 1048576 := by
 unfold lpN
 rcases hv : Gm.vld g with _ | _
 ·
  rw [Cr.bal_no hv]
  simp [Cr.lp0, cellsOf]
 ·
  rw [Cr.bal_yes hv]
  have hn := Gm.vld_n hv
  have hl := Gm.vld_len hv
  have e1 : (Cr.lp g).A.length = g.n.toNat := Cr.rowsTo_len _ _
  have e2 : (Cr.lp g).B.length = g.n.toNat := Cr.onesTo_len _
  have e3 : (Cr.lp g).C.length = g.v.length - 1 := Cr.cost_len _ _
  have e4 := cr_cells 31 (Cr.lp g).A fun r hr => by
   have hr' : r ∈ Cr.rowsTo (g.v.length - 1) g.n.toNat := hr
   unfold Cr.rowsTo at hr'
   obtain ⟨j, _, rfl⟩ := List.mem_map.1 hr'
   rw [Cr.mrow_len]
   omega
  rw [e1] at e4
  rw [e1, e2, e3]
  have h5 : g.n.toNat ≤ 5 := by omega
  have h6 : g.n.toNat * 31 ≤ 5 * 31 := Nat.mul_le_mul_right _ h5
  omega
theorem cr_made (n : Nat) : (madeCells #[Value.int .i64 0] n).toList = (Lp.zerosI n).map (Value.int .i64) := by
 apply List.ext_getElem
 ·
  simp [madeCells, Lp.zerosI]
 ·
  intro i h1 h2
  simp [madeCells, Nat.mod_one, Lp.zerosI]
set_option maxHeartbeats 4000000 in
theorem impl_IsBalancedCollection {w : World} {v : Value} {xs : List R} (n : Int) (hn0 : -9223372036854775808 ≤ n) (hn1 : n ≤ 9223372036854775807) (g : Bool) (hg : Cr.blc n xs = g) (h : InRats w v xs) (hf : xs.length ≤ 1048576) :
  Calls Try.prog 19 #[.int .i64 n, v] w fun e w' => e = .returned (.bool g) ∧ Below w.heap.size w w' := by
 obtain ⟨a, c, rfl, hi⟩ := h
 have HI := zH hi
 obtain ⟨N, hN, hN32, HC, hK⟩ : ∃ N : Nat, N = N ∧ N ≤ 32 ∧ (∀ W, Calls Try.prog 50 #[.int .i64 n] W fun e w' => e = .returned (.int .i64 (N : Int)) ∧ W = w') ∧ (Gm.vld ⟨n, Lp.zerosI N⟩ = true → Lp.feas (Cr.lp ⟨n, Lp.zerosI N⟩) xs = g) ∧ (Gm.vld ⟨n, Lp.zerosI N⟩ = false → false = g) := by
  by_cases hn : 1 ≤ n ∧ n ≤ 5
  ·
   obtain ⟨m, rfl⟩ : ∃ m : Nat, n = m := ⟨n.toNat, by omega⟩
   have hv := Cr.nil_vld (n := (m : Int)) hn
   unfold Cr.nil_ at hv
   rw [Int.toNat_natCast] at hv
   refine ⟨2 ^ m, rfl, Nat.pow_le_pow_right (by omega) (show m ≤ 5 by omega), fun W => impl_CountCoalitions m (by omega) W, fun _ => ?_, fun h => ?_⟩
   ·
    rw [Cr.blc_feas hv]
    exact hg
   ·
    rw [hv] at h; cases h
  ·
   have hno : Cr.blc n xs = false := Cr.blc_shape (Cr.shape_n hn)
   by_cases h0 : n = 0
   ·
    subst h0
    refine ⟨2 ^ 0, rfl, by decide, fun W => impl_CountCoalitions 0 (by omega) W, fun h => ?_, fun _ => by rw [← hg, hno]⟩
    have := Gm.vld_n h
    simp at this
   ·
    refine ⟨0, rfl, by decide, fun W => impl_CountCoalitions_out n (by omega) hn0 hn1 W, fun h => ?_, fun _ => by rw [← hg, hno]⟩
    have := Gm.vld_n h
    simp at this
    omega
 have HCo := zH HC
 have HKo := zH hK
 have hwf : (Lit.int .i64 n).wf = true := by
  have e1 : IntKind.i64.min = -9223372036854775808 := rfl
  have e2 : IntKind.i64.max = 9223372036854775807 := rfl
  simp [Lit.wf, e1, e2]
  omega
 have hzl : (Lp.zerosI N).length = N := by simp [Lp.zerosI]
 obtain ⟨i0, hii, hz0, hz1, hz2⟩ := info_parts info_int
 have HII := zH hii
 have HZ0 := zH hz0
 have HZ1 := zH hz1
 have Hby : Hid (i0.bytes * N ≤ 281474976710656) := by show _ ≤ _; rw [hz2]; omega
 have HGok : Hid (GmOk ⟨n, Lp.zerosI N⟩) := ⟨by show (Lp.zerosI N).length ≤ 1048576; omega, hwf⟩
 have HZl := zH hzl
 clear hi hg HC hK hwf hzl hii hz0 hz1 hz2 hN
 go_enter Try.func19, Try.ntmps19
 go_wp2_with fail
 refine (HCo.out _).mono ?_
 rintro e w1 ⟨rfl, rfl⟩
 go_wp2_with (refine wpList_make_full _ rfl _ _ 22 rfl w.heap.size 3 i0 (.int .i64 0) 1 Try.underlying22 HII.out HZ0.out HZ1.out _ _ _ _ N rfl rfl rfl rfl Hby.out ?c1 (by omega) ?_)
 case c1 => unfold maxLen; omega
 intro w2 hown hgrow
 rw [cr_made] at hown
 have hO : OwnInts w.heap.size w2 (.slice (some ⟨w.heap.size, 0, none⟩) N N) (Lp.zerosI N) := by unfold OwnInts; rw [HZl.out]; exact hown
 have hB2 : Below w.heap.size w w2 := (Below.refl w.heap.size w).grown hgrow (Nat.le_refl _) (fun k hk => by cases hk)
 have hgm : GmX w2 (.int .i64 n) (.slice (some ⟨w.heap.size, 0, none⟩) N N) ⟨n, Lp.zerosI N⟩ := by
  obtain ⟨_, _, eB, hb1, hb2, _⟩ := own_reads hO
  injection eB with e1 e2 e3
  subst e1
  have h1 : GmC w2 (.int .i64 n) (.slice (some ⟨w.heap.size, 0, none⟩) N N) ⟨n, Lp.zerosI N⟩ := ⟨_, N, rfl, by show _ = Value.slice _ (Lp.zerosI N).length N; rw [HZl.out], NumsIn.of_ints hb1 fun q hq => (hb2 q hq).2⟩
  exact ⟨h1, fun b k c e => by injection e with e1 e2 e3; show (Lp.zerosI N).length ≤ c; rw [HZl.out]; omega⟩
 have HB2 := zH hB2
 have HMk := zH (impl_BalancedLP hgm HGok.out)
 clear hown hgrow hO hB2 hgm
 obtain ⟨K, hK⟩ : ∃ K, Gm.vld ⟨n, Lp.zerosI N⟩ = K := ⟨_, rfl⟩
 rw [hK] at HMk HKo
 have HV := zH hK
 obtain ⟨P, hP⟩ : ∃ P, Cr.bal ⟨n, Lp.zerosI N⟩ = P := ⟨_, rfl⟩
 rw [hP] at HMk
 have HPs : Hid (LpFits P) := by rw [← hP]; exact lpFits (bal_small _)
 have HPe := zH hP
 clear hK hP
 go_wp2_with fail
 refine HMk.out.mono ?_
 rintro e w3 ⟨vA, vB, vC, rfl, hab, hc, hb3⟩
 obtain ⟨⟨aA, cA, hvA⟩, ⟨aB, cB, hvB⟩⟩ := hab.shape
 obtain ⟨aC, cC, hvC, hRc, _⟩ := own_rats hc
 subst hvA hvB hvC
 obtain ⟨_, _, eA, hMA⟩ := hab.reads
 injection eA with eA1 _ eA3
 subst eA1 eA3
 have hBn : NumsIn w3.heap.size w3 aB P.B := by
  obtain ⟨_, _, eB, hb1, hb2, _⟩ := own_reads hab.b
  injection eB with e1 e2 e3
  subst e1
  exact NumsIn.of_ints hb1 fun q hq => (hb2 q hq).2
 have HLp : Hid (LpIn w3.heap.size w3 aA aB aC P) := ⟨hMA, hBn, hRc⟩
 have hB3 : Below w.heap.size w w3 := HB2.out.trans (hb3.mono HB2.out.size)
 have HB3 := zH hB3
 have hsz3 : w.heap.size ≤ w3.heap.size := hB3.size
 clear hab hc hRc hMA hBn hB3 hb3 HMk HB2
 have HBx := zH ((Below.refl w3.heap.size w3).alloc (Nat.le_refl _) (.cells #[.slice aA P.A.length cA, .slice aB P.B.length cB, .slice aC P.C.length cC] 29))
 obtain ⟨q0, q1, q2, _⟩ := (Tri.new w3 (.slice aA P.A.length cA) (.slice aB P.B.length cB) (.slice aC P.C.length cC) 29).cells
 rcases K with _ | _
 ·
  have Hr := zH (HKo.out.2 rfl)
  have HE := zH (HB3.out.trans (HBx.out.mono hsz3))
  clear q0 q1 q2 HKo
  go_wp2_with fail
  go_ret
  exact ⟨ret_bool Hr.out, HE.out⟩
 ·
  have hfe := HKo.out.1 rfl
  have hpe := HPe.out
  rw [Cr.bal_yes HV.out] at hpe
  rw [hpe] at hfe
  have HFe := zH (impl_IsFeasible w3.heap.size aA aB aC a cA cB cC c P xs HPs.out hf g hfe _ HBx.out.size (HLp.out.below HBx.out) ((HI.out.below (HB3.out.trans (HBx.out.mono hsz3))).mono hsz3))
  have HE := zH (HB3.out.trans (HBx.out.mono hsz3))
  clear hfe hpe HKo
  go_wp2_with fail
  refine HFe.out.mono ?_
  rintro e w5 ⟨rfl, hb5⟩
  have HE5 := zH (HE.out.trans (hb5.mono HE.out.size))
  clear hb5 q0 q1 q2
  go_wp2_with fail
  go_ret
  exact ⟨rfl, HE5.out⟩
end Go.Proofs.Ytjkofijchdibdaa
