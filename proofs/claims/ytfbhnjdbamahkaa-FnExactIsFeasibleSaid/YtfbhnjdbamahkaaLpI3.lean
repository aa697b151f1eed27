/- impl.dotInts, hasNegative, isSolution, IsFeasible. -/
import Derived.Test.YtfbhnjdbamahkaaLpE2
import Derived.Test.YtfbhnjdbamahkaaLpI2
import Derived.Test.YtfbhnjdbamahkaaGVc
import Derived.Test.YtfbhnjdbamahkaaGVc
namespace Go.Proofs.Ytfbhnjdbamahkaa
open Go.RowKit
open Ve (R)
open Lp (P)
theorem dot_none {a b : List R} (h : Ve.dotK a b = false) : Ve.dotR a b = (0, 0) := by
  by_cases hl : a.length = b.length
  · exact (Ve.dot_cut hl (Nat.le_refl _) (by rw [← (Ve.dot_same hl).2]; exact h)).1
  · exact (Ve.dot_len hl).1
set_option maxRecDepth 100000 in
set_option maxHeartbeats 2000000 in
theorem impl_dotInts (B : Nat) (a b : Option Addr) (c1 c2 : Nat) (l : List Int) (v : List R) (hn : l.length ≤ 1048576) (hn2 : v.length ≤ 1048576) (w : World) (hBw : B ≤ w.heap.size) (h1 : NumsIn B w a l) (h2 : RatsIn B w b v) :
    Calls Try.prog 123 #[.slice a l.length c1, .slice b v.length c2] w (OneRat (Lp.idR l v) (Lp.idK l v) w) := by
  obtain ⟨D, hD⟩ : ∃ D, Lp.idR l v = D := ⟨_, rfl⟩
  obtain ⟨K, hK⟩ : ∃ K, Lp.idK l v = K := ⟨_, rfl⟩
  rw [hD, hK]
  have HD := Lib.hid hD
  have HK := Lib.hid hK
  have hb0 := (Below.refl w.heap.size w).alloc (Nat.le_refl _) (.cells #[.int .i64 0, .int .i64 0] 34)
  have H1 := Lib.hid ((h1.mono hBw).below hb0)
  have H2 := Lib.hid ((h2.mono hBw).below hb0)
  have Hb0 := Lib.hid hb0
  have Hr0 := Lib.hid (BoxAt.new w (0, 0))
  have hil := ir_length l
  clear h1 h2 hD hK hb0
  go_enter Try.func123, Try.ntmps123
  go_wp2_with fail
  refine (impl_IntsToRats w.heap.size a c1 l hn _ Hb0.out.size H1.out).mono ?_
  rintro e w1 ⟨u, rfl, ho, k1⟩
  rw [show Ve.outR (Ve.ofI l) l.length = Lp.ir l from rfl] at ho
  rw [show Ve.allK (Ve.ofI l) l.length = Lp.irK l from rfl]
  obtain ⟨x, cx, rfl, hx, _, _⟩ := own_rats ho
  have HX := Lib.hid hx
  have Hb1 := Lib.hid (Hb0.out.trans (k1.mono Hb0.out.size))
  have hr1 := Hr0.out.below k1
  have Hr1 := Lib.hid hr1
  have H21 := Lib.hid (H2.out.below (k1.mono Hb0.out.size))
  obtain ⟨r0, r1, f0, f1⟩ := hr1.four
  clear k1 ho hx hr1
  obtain ⟨k, hk⟩ : ∃ k, Lp.irK l = k := ⟨_, rfl⟩
  rw [hk]
  have Hk := Lib.hid hk
  clear hk
  cases k with
  | false =>
    have hid : Lp.idK l v = false := by unfold Lp.idK; rw [Hk.out]; rfl
    have hDD : (0, 0) = D := by rw [← HD.out, Lp.id_no hid]
    have hKK : false = K := by rw [← HK.out, hid]
    subst hDD hKK
    clear hid
    go_wp2_with fail
    have hz := pair_set (x := .int .i64 0) (y := .int .i64 0) r0 r1
    exact bodyPost_ret (v := .tuple #[.agg #[.int .i64 0, .int .i64 0], .bool false]) (by simp [results, Try.results123, go_sem, hz.1, hz.2]) rfl ⟨rfl, (Hb1.out.setCell (p := ⟨w.heap.size, 0, none⟩) (Nat.le_refl _) _).setCell (p := ⟨w.heap.size, 1, none⟩) (Nat.le_refl _) _⟩
  | true =>
    have hKK : Ve.dotK (Lp.ir l) v = K := by rw [← HK.out]; unfold Lp.idK; rw [Hk.out]; rfl
    have hDD : Ve.dotR (Lp.ir l) v = D ∨ (K = false ∧ D = (0, 0)) := by
      cases hk2 : Lp.idK l v
      · exact .inr ⟨by rw [← HK.out, hk2], by rw [← HD.out, Lp.id_no hk2]⟩
      · exact .inl (by rw [← HD.out, (Lp.id_yes hk2).2.2.1])
    have hDR : Ve.dotR (Lp.ir l) v = D := by
      rcases hDD with h | ⟨h1, h2⟩
      · exact h
      · rw [h2]; exact dot_none (hKK.trans h1)
    have HDR := Lib.hid hDR
    have HKK := Lib.hid hKK
    clear hDD hDR hKK r0 r1 f0 f1
    go_wp2_with fail
    refine (impl_DotRat w1.heap.size x b cx c2 (Lp.ir l) v (by omega) hn2 _ (Nat.le_refl _) HX.out (H21.out.mono Hb1.out.size)).mono ?_
    rintro e w2 ⟨rfl, k2⟩
    rw [HDR.out, HKK.out]
    have Hb2 := Lib.hid (Hb1.out.trans (k2.mono Hb1.out.size))
    have hr2 := Hr1.out.below k2
    obtain ⟨r0, r1, f0, f1⟩ := hr2.four
    clear k2 hr2
    go_wp2_with fail
    have hz := pair_set (x := .int .i64 D.1) (y := .int .i64 D.2) r0 r1
    exact bodyPost_ret (v := .tuple #[.agg #[.int .i64 D.1, .int .i64 D.2], .bool K]) (by simp [results, Try.results123, go_sem, hz.1, hz.2]) rfl ⟨rfl, (Hb2.out.setCell (p := ⟨w.heap.size, 0, none⟩) (Nat.le_refl _) _).setCell (p := ⟨w.heap.size, 1, none⟩) (Nat.le_refl _) _⟩
/-- Some element below zero. -/
def anyNeg (v : List R) : Bool := v.any fun x => decide (x.1 < 0)
theorem neg_at {v : List R} {k : Nat} (hk : k < v.length) (h : (Ve.at_ v k).1 < 0) : anyNeg v = true := by
  unfold anyNeg
  rw [List.any_eq_true]
  have e : Ve.at_ v k = v[k] := by unfold Ve.at_; rw [List.getD_eq_getElem?_getD, List.getElem?_eq_getElem hk]; rfl
  exact ⟨v[k], List.getElem_mem hk, by rw [← e]; exact decide_eq_true h⟩
theorem neg_none {v : List R} (h : ∀ k, k < v.length → ¬ (Ve.at_ v k).1 < 0) : anyNeg v = false := by
  unfold anyNeg
  rw [List.any_eq_false]
  intro x hx
  obtain ⟨k, hk, rfl⟩ := List.getElem_of_mem hx
  have := h k hk
  have e : Ve.at_ v k = v[k] := by unfold Ve.at_; rw [List.getD_eq_getElem?_getD, List.getElem?_eq_getElem hk]; rfl
  rw [e] at this
  simpa using this
theorem nonneg_split (v : List R) : Lp.nonneg v = (Ve.good v && !anyNeg v) := by
  unfold Lp.nonneg Ve.good anyNeg
  induction v with
  | nil => rfl
  | cons x v ih =>
    simp only [List.all_cons, List.any_cons, ih, Bool.not_or]
    have e : decide (0 ≤ x.1) = !decide (x.1 < 0) := by
      by_cases h : x.1 < 0
      · have : ¬ 0 ≤ x.1 := by omega
        simp [h]
      · have : 0 ≤ x.1 := by omega
        simp [h, this]
    rw [e]
    cases Ve.vld x <;> cases decide (x.1 < 0) <;> simp
theorem impl_hasNegative1 (x : R) (w : World) : Calls Try.prog 142 #[.agg #[.int .i64 x.1, .int .i64 x.2]] w fun e w' => e = .returned (.bool (decide (x.1 < 0))) ∧ Below w.heap.size w w' := by
  go_enter Try.func142, Try.ntmps142
  go_wp2_with fail
  go_ret
  exact ⟨rfl, by (repeat' (first | exact Below.refl _ _ | exact Nat.le_refl _ | refine Below.setCell ?_ ?_ _ | refine Below.alloc ?_ ?_ _ | refine below_drewN ?_ _ | refine Below.drew ?_ | (simp; done) | (simp; omega)))⟩
/-- The index of an element below zero, or -1. -/
def NegIdx (v : List R) (w : World) (e : Ending) (w' : World) : Prop := ∃ r : Int, e = .returned (.int .i64 r) ∧ decide (0 ≤ r) = anyNeg v ∧ Below w.heap.size w w'
set_option maxRecDepth 100000 in
set_option maxHeartbeats 1000000 in
theorem slices_IndexFunc (B : Nat) (a : Option Addr) (c : Nat) (v : List R) (hn : v.length ≤ 1048576) (w : World) (hBw : B ≤ w.heap.size) (h1 : RatsIn B w a v) :
    Calls Try.prog 150 #[.slice a v.length c, .func (.func 142) #[] #[]] w (NegIdx v w) := by
  have H1 := Lib.hid (h1.mono hBw)
  clear h1
  go_enter Try.func150, Try.ntmps150
  go_wp2_with fail
  go_loopw [8] (fun i wr => ∃ k : Nat, k ≤ v.length ∧ i = .int .i64 k ∧ Hid (∀ j, j < k → 0 ≤ (Ve.at_ v j).1) ∧ Hid (Below w.heap.size w wr)) (fun i _ => v.length - (intOf i).toNat)
  case atStart => exact ⟨0, Nat.zero_le _, rfl, fun j hj => absurd hj (by omega), Below.refl _ _⟩
  case round =>
    obtain ⟨k, hk, rfl, hA, hB⟩ := hrel
    by_cases hlt : k < v.length
    · obtain ⟨b, o, rfl, hb, c0, c1⟩ := (H1.out.below hB.out).at k hlt
      rcases hv : decide ((Ve.at_ v k).1 < 0) with _ | _
      · have HA2 : Hid (∀ j, j < k + 1 → 0 ≤ (Ve.at_ v j).1) := fun j hj => by
          by_cases e : j = k
          · subst e; have := of_decide_eq_false hv; omega
          · exact hA.out j (by omega)
        have Hc := Lib.hid (fun w => (show Calls Try.prog 142 #[.agg #[.int .i64 (Ve.at_ v k).1, .int .i64 (Ve.at_ v k).2]] w fun e w' => e = .returned (.bool false) ∧ Below w.heap.size w w' from hv ▸ impl_hasNegative1 (Ve.at_ v k) w))
        generalize Ve.at_ v k = x at *
        clear hv
        go_wp2_with fail
        refine (Hc.out _).mono ?_
        rintro e w1 ⟨rfl, hb1⟩
        have Hb := Lib.hid (hB.out.trans (hb1.mono hB.out.size))
        clear hb1
        go_wp2_with fail
        go_roundw
        case rel => exact ⟨k + 1, by omega, by go_num, HA2, Hb⟩
        case measure => simp [intOf]; omega
      · have Hr := Lib.hid (neg_at hlt (of_decide_eq_true hv))
        have Hc := Lib.hid (fun w => (show Calls Try.prog 142 #[.agg #[.int .i64 (Ve.at_ v k).1, .int .i64 (Ve.at_ v k).2]] w fun e w' => e = .returned (.bool true) ∧ Below w.heap.size w w' from hv ▸ impl_hasNegative1 (Ve.at_ v k) w))
        generalize Ve.at_ v k = x at *
        clear hv
        go_wp2_with fail
        refine (Hc.out _).mono ?_
        rintro e w1 ⟨rfl, hb1⟩
        have Hb := Lib.hid (hB.out.trans (hb1.mono hB.out.size))
        clear hb1
        go_wp2_with fail
        go_ret
        exact ⟨k, rfl, by rw [Hr.out, decide_eq_true_iff]; omega, Hb.out⟩
    · have Hr := Lib.hid (neg_none (v := v) fun j hj => by have := hA.out j (by omega); omega)
      go_wp2_with fail
      go_ret
      exact ⟨-1, rfl, by rw [Hr.out]; decide, hB.out⟩
theorem slices_ContainsFunc (B : Nat) (a : Option Addr) (c : Nat) (v : List R) (hn : v.length ≤ 1048576) (w : World) (hBw : B ≤ w.heap.size) (h1 : RatsIn B w a v) :
    Calls Try.prog 141 #[.slice a v.length c, .func (.func 142) #[] #[]] w fun e w' => e = .returned (.bool (anyNeg v)) ∧ Below w.heap.size w w' := by
  have HI := Lib.hid (slices_IndexFunc B a c v hn w hBw h1)
  clear h1
  go_enter Try.func141, Try.ntmps141
  go_wp2_with fail
  refine HI.out.mono ?_
  rintro e w1 ⟨r, rfl, hr, hb⟩
  have Hr := Lib.hid hr
  have Hb := Lib.hid hb
  clear hr hb
  go_wp2_with fail
  go_ret
  exact ⟨ret_bool Hr.out, Hb.out⟩
theorem impl_hasNegative (B : Nat) (a : Option Addr) (c : Nat) (v : List R) (hn : v.length ≤ 1048576) (w : World) (hBw : B ≤ w.heap.size) (h1 : RatsIn B w a v) :
    Calls Try.prog 122 #[.slice a v.length c] w fun e w' => e = .returned (.bool (anyNeg v)) ∧ Below w.heap.size w w' := by
  have HI := Lib.hid (slices_ContainsFunc B a c v hn w hBw h1)
  clear h1
  go_enter Try.func122, Try.ntmps122
  go_wp2_with fail
  refine HI.out.mono ?_
  rintro e w1 ⟨rfl, hb⟩
  have Hb := Lib.hid hb
  clear hb
  go_wp2_with fail
  go_ret
  exact ⟨rfl, Hb.out⟩
end Go.Proofs.Ytfbhnjdbamahkaa
