/- The parts LpB, LpB2, LpC, LpD. -/
import Derived.Test.YtjkofijchdibdaaGLa
import Derived.Test.YtjkofijchdibdaaGVa
import Derived.Test.YtjkofijchdibdaaGVb
set_option maxRecDepth 100000
namespace Go.Proofs.Ytjkofijchdibdaa
open Go.RowKit
open Ve (R)
open Lp (P)
theorem small_at {l : List Int} {k : Nat} (hk : k < l.length) (h : decide (-5000 ≤ l.getD k 0 ∧ l.getD k 0 ≤ 5000) = false) : Lp.small l = false := by
 rw [Bool.eq_false_iff]
 intro h2
 unfold Lp.small at h2
 rw [List.all_eq_true] at h2
 have := h2 _ (List.getElem_mem hk)
 rw [List.getD_eq_getElem?_getD, List.getElem?_eq_getElem hk] at h
 simp only [Option.getD_some] at h
 rw [h] at this
 cases this
theorem small_all {l : List Int} (h : ∀ k, k < l.length → decide (-5000 ≤ l.getD k 0 ∧ l.getD k 0 ≤ 5000) = true) : Lp.small l = true := by
 unfold Lp.small
 rw [List.all_eq_true]
 intro x hx
 obtain ⟨k, hk, rfl⟩ := List.getElem_of_mem hx
 have := h k hk
 rw [List.getD_eq_getElem?_getD, List.getElem?_eq_getElem hk] at this
 exact this
end Go.Proofs.Ytjkofijchdibdaa

namespace Go.Proofs.Ytjkofijchdibdaa
open Go.RowKit
open Ve (R)
open Lp (P)
theorem rows_row (p : P) (k : Nat) : Lp.row p k = rw_ p.A k := rfl
def rowOk (p : P) (k : Nat) : Bool := decide ((rw_ p.A k).length = p.C.length) && Lp.small (rw_ p.A k)
theorem rows_bad {p : P} {k : Nat} (hk : k < p.A.length) (h : rowOk p k = false) : Lp.vldP p = false := by
 rw [Bool.eq_false_iff]
 intro h2
 have h3 := Lp.rows_at (Lp.vld_parts h2).1 hk
 unfold rowOk at h
 rw [← rows_row] at h
 simp [h3] at h
theorem rows_good {p : P} (h : ∀ k, k < p.A.length → rowOk p k = true) : Lp.rows p = true := by
 unfold Lp.rows
 rw [List.all_eq_true]
 intro k hk
 exact h k (by simpa using hk)
end Go.Proofs.Ytjkofijchdibdaa

namespace Go.Proofs.Ytjkofijchdibdaa
open Go.RowKit
open Ve (R)
open Lp (P)
theorem ir_length (l : List Int) : (Lp.ir l).length ≤ l.length := by
 unfold Lp.ir Ve.outR
 split
 ·
  simp
 ·
  simp
set_option maxHeartbeats 2000000 in
theorem spec_l5Dot (B : Nat) (a b : Option Addr) (c1 c2 : Nat) (l : List Int) (v : List R) (hn : l.length ≤ 1048576) (hn2 : v.length ≤ 1048576) (w : World) (hBw : B ≤ w.heap.size) (h1 : NumsIn B w a l) (h2 : RatsIn B w b v) :
  Calls Try.prog 48 #[.slice a l.length c1, .slice b v.length c2] w (OneRat (Lp.idR l v) (Lp.idK l v) w) := by
 obtain ⟨D, hD⟩ : ∃ D, Lp.idR l v = D := ⟨_, rfl⟩
 obtain ⟨K, hK⟩ : ∃ K, Lp.idK l v = K := ⟨_, rfl⟩
 rw [hD, hK]
 have HD := zH hD
 have HK := zH hK
 have hb0 := (Below.refl w.heap.size w).alloc (Nat.le_refl _) (.cells #[.int .i64 0, .int .i64 0] 59)
 have H1 := zH ((h1.mono hBw).below hb0)
 have H2 := zH ((h2.mono hBw).below hb0)
 have Hb0 := zH hb0
 have Hr0 := zH (BoxAt.new w (0, 0))
 have hil := ir_length l
 clear h1 h2 hD hK hb0
 go_enter Try.func48, Try.ntmps48
 go_wp2_with fail
 refine (spec_IntsToRats w.heap.size a c1 l hn _ Hb0.out.size H1.out).mono ?_
 rintro e w1 ⟨u, rfl, ho, k1⟩
 rw [show Ve.outR (Ve.ofI l) l.length = Lp.ir l from rfl] at ho
 rw [show Ve.allK (Ve.ofI l) l.length = Lp.irK l from rfl]
 obtain ⟨x, cx, rfl, hx, _, _⟩ := own_rats ho
 have HX := zH hx
 have Hb1 := zH (Hb0.out.trans (k1.mono Hb0.out.size))
 have Hr1 := zH (Hr0.out.below k1)
 have H21 := zH (H2.out.below (k1.mono Hb0.out.size))
 clear k1 ho hx
 obtain ⟨k, hk⟩ : ∃ k, Lp.irK l = k := ⟨_, rfl⟩
 rw [hk]
 have Hk := zH hk
 clear hk
 go_wp2_with fail
 refine (spec_DotRat w1.heap.size x b cx c2 (Lp.ir l) v (by omega) hn2 _ (Nat.le_refl _) HX.out (H21.out.mono Hb1.out.size)).mono ?_
 rintro e w2 ⟨rfl, k2⟩
 obtain ⟨d, hd⟩ : ∃ d, Ve.dotK (Lp.ir l) v = d := ⟨_, rfl⟩
 obtain ⟨s, hs⟩ : ∃ s, Ve.dotR (Lp.ir l) v = s := ⟨_, rfl⟩
 rw [hd, hs]
 have hid : Lp.idK l v = (k && d) := by unfold Lp.idK; rw [Hk.out, hd]
 have hir : (k && d) = true → D = s := fun h => by
  rw [← HD.out, (Lp.id_yes (hid.trans h)).2.2.1, hs]
 have hno : (k && d) = false → D = (0, 0) := fun h => by
  rw [← HD.out, Lp.id_no (hid.trans h)]
 have hKK : K = (k && d) := by rw [← HK.out, hid]
 subst hKK
 have Hyes := zH hir
 have Hno := zH hno
 have Hb2 := zH ((Hb1.out.trans (k2.mono Hb1.out.size)).alloc (Hb1.out.trans (k2.mono Hb1.out.size)).size (.cells #[.int .i64 s.1, .int .i64 s.2] 59))
 have hr2 := (Hr1.out.below k2).alloc (.cells #[.int .i64 s.1, .int .i64 s.2] 59)
 obtain ⟨r0, r1, f0, f1⟩ := hr2.four
 clear k2 hd hs hid hir hno hr2
 rcases k with _ | _
 ·
  have h0 := Hno.out (by simp)
  subst h0
  clear Hyes Hno
  go_wp2_with fail
  have hz := pair_set (x := .int .i64 0) (y := .int .i64 0) r0 r1
  exact bodyPost_ret (v := .tuple #[.agg #[.int .i64 0, .int .i64 0], .bool false]) (by simp [results, Try.results48, go_sem, hz.1, hz.2]) rfl ⟨rfl, (Hb2.out.setCell (p := ⟨w.heap.size, 0, none⟩) (Nat.le_refl _) _).setCell (p := ⟨w.heap.size, 1, none⟩) (Nat.le_refl _) _⟩
 ·
  rcases d with _ | _
  ·
   have h0 := Hno.out (by simp)
   subst h0
   clear Hyes Hno
   go_wp2_with fail
   have hz := pair_set (x := .int .i64 0) (y := .int .i64 0) r0 r1
   exact bodyPost_ret (v := .tuple #[.agg #[.int .i64 0, .int .i64 0], .bool false]) (by simp [results, Try.results48, go_sem, hz.1, hz.2]) rfl ⟨rfl, (Hb2.out.setCell (p := ⟨w.heap.size, 0, none⟩) (Nat.le_refl _) _).setCell (p := ⟨w.heap.size, 1, none⟩) (Nat.le_refl _) _⟩
  ·
   have h0 := Hyes.out (by simp)
   subst h0
   clear Hyes Hno
   go_wp2_with fail
   have hz := pair_set (x := .int .i64 D.1) (y := .int .i64 D.2) r0 r1
   exact bodyPost_ret (v := .tuple #[.agg #[.int .i64 D.1, .int .i64 D.2], .bool true]) (by simp [results, Try.results48, go_sem, hz.1, hz.2]) rfl ⟨rfl, (Hb2.out.setCell (p := ⟨w.heap.size, 0, none⟩) (Nat.le_refl _) _).setCell (p := ⟨w.heap.size, 1, none⟩) (Nat.le_refl _) _⟩
def nnOk (x : R) : Bool := Ve.vld x && decide (0 ≤ x.1)
theorem nn_bad {v : List R} {k : Nat} (hk : k < v.length) (h : nnOk (Ve.at_ v k) = false) : Lp.nonneg v = false := by
 rw [Bool.eq_false_iff]
 intro h2
 have := Lp.nonneg_at h2 hk
 unfold nnOk at h
 simp [this] at h
theorem nn_good {v : List R} (h : ∀ k, k < v.length → nnOk (Ve.at_ v k) = true) : Lp.nonneg v = true := by
 unfold Lp.nonneg
 rw [List.all_eq_true]
 intro x hx
 obtain ⟨k, hk, rfl⟩ := List.getElem_of_mem hx
 have := h k hk
 have e : Ve.at_ v k = v[k] := by unfold Ve.at_; rw [List.getD_eq_getElem?_getD, List.getElem?_eq_getElem hk]; rfl
 rw [e] at this
 exact this
set_option maxHeartbeats 1000000 in
theorem spec_l5NotNegative (B : Nat) (a : Option Addr) (c : Nat) (v : List R) (hn : v.length ≤ 1048576) (g : Bool) (hg : Lp.nonneg v = g) (w : World) (hBw : B ≤ w.heap.size) (h1 : RatsIn B w a v) :
  Calls Try.prog 47 #[.slice a v.length c] w fun e w' => e = .returned (.bool g) ∧ Below w.heap.size w w' := by
 have H1 := zH (h1.mono hBw)
 have Hg := zH hg
 clear h1 hg
 go_enter Try.func47, Try.ntmps47
 go_wp2_with fail
 go_loopw [3] (fun i wr => ∃ k : Nat, k ≤ v.length ∧ i = .int .i64 k ∧ Hid (∀ j, j < k → nnOk (Ve.at_ v j) = true) ∧ Hid (Below w.heap.size w wr)) (fun i _ => v.length - (intOf i).toNat)
 case atStart => exact ⟨0, Nat.zero_le _, rfl, fun j hj => absurd hj (by omega), Below.refl _ _⟩
 case round =>
  obtain ⟨k, hk, rfl, hA, hB⟩ := hrel
  by_cases hlt : k < v.length
  ·
   obtain ⟨b, o, rfl, hbl, p0, p1⟩ := (H1.out.below hB.out).at k hlt
   have Hgood := zH (fun (h : nnOk (Ve.at_ v k) = true) => (fun j (hj : j < k + 1) => (show nnOk (Ve.at_ v j) = true from by
     by_cases e : j = k
     ·
      subst e; exact h
     ·
      exact hA.out j (by omega))))
   have Hbad := zH (fun (h : nnOk (Ve.at_ v k) = false) => (show false = g from (nn_bad hlt h).symm.trans Hg.out))
   generalize hx : Ve.at_ v k = x at *
   clear hx
   rcases hv : Ve.vld x with _ | _
   ·
    have Hr := zH (Hbad.out (by unfold nnOk; rw [hv]; rfl))
    have Hv := zH hv
    clear hv Hgood Hbad
    go_wp2_with fail
    refine (spec_IsValidRat _ _ false Hv.out _).mono ?_
    rintro e w1 ⟨rfl, hb1⟩
    have Hb := zH (hB.out.trans (hb1.mono hB.out.size))
    clear hb1
    go_wp2_with fail
    go_ret
    exact ⟨ret_bool Hr.out, Hb.out⟩
   ·
    have Hv := zH hv
    by_cases hneg : x.1 < 0
    ·
     have Hr := zH (Hbad.out (by unfold nnOk; rw [hv]; simp; omega))
     have hd : decide (x.1 < 0) = true := by rw [decide_eq_true_iff]; exact hneg
     clear hv Hgood Hbad
     go_wp2_with fail
     refine (spec_IsValidRat _ _ true Hv.out _).mono ?_
     rintro e w1 ⟨rfl, hb1⟩
     have Hb := zH (hB.out.trans (hb1.mono hB.out.size))
     have q0 : w1.cell? ⟨b, o + k * 2, none⟩ = some (.int .i64 x.1) := by rw [hb1.cell (p := ⟨b, o + k * 2, none⟩) (by have := hB.out.size; show b < _; omega)]; exact p0
     clear hb1
     go_wp2_with fail
     go_ret
     exact ⟨ret_bool Hr.out, Hb.out⟩
    ·
     have HA2 := zH (Hgood.out (by unfold nnOk; rw [hv]; simp; omega))
     have hd : decide (x.1 < 0) = false := by rw [decide_eq_false_iff_not]; exact hneg
     clear hv Hgood Hbad
     go_wp2_with fail
     refine (spec_IsValidRat _ _ true Hv.out _).mono ?_
     rintro e w1 ⟨rfl, hb1⟩
     have Hb := zH (hB.out.trans (hb1.mono hB.out.size))
     have q0 : w1.cell? ⟨b, o + k * 2, none⟩ = some (.int .i64 x.1) := by rw [hb1.cell (p := ⟨b, o + k * 2, none⟩) (by have := hB.out.size; show b < _; omega)]; exact p0
     clear hb1
     go_wp2_with fail
     go_roundw
     case rel => exact ⟨k + 1, by omega, by go_num, HA2, Hb⟩
     case measure => simp [intOf]; omega
  ·
   have Hr := zH (show true = g by rw [← Hg.out]; exact (nn_good fun j hj => hA.out j (by omega)).symm)
   go_wp2_with fail
   go_ret
   exact ⟨ret_bool Hr.out, hB.out⟩
end Go.Proofs.Ytjkofijchdibdaa

namespace Go.Proofs.Ytjkofijchdibdaa
open Go.RowKit
open Ve (R)
open Lp (P)
def colOf (p : P) (j : Int) : List Int := if Lp.vldP p = true ∧ 0 ≤ j ∧ j < p.C.length then Lp.col p j.toNat else []
def cl (p : P) (j k : Nat) : List Int := (List.range k).map fun i => (rw_ p.A i).getD j 0
theorem cl_len (p : P) (j k : Nat) : (cl p j k).length = k := by simp [cl]
theorem cl_next (p : P) (j k : Nat) : cl p j (k + 1) = cl p j k ++ [(rw_ p.A k).getD j 0] := by simp [cl, List.range_succ]
theorem cl_all (p : P) (j : Nat) : cl p j p.A.length = Lp.col p j := by
 apply List.ext_getElem
 ·
  simp [cl, Lp.col]
 ·
  intro i h1 h2
  have hi : i < p.A.length := by simpa [cl] using h1
  simp [cl, Lp.col, rw_, hi]
theorem col_no_valid {p : P} {j : Int} (h : Lp.vldP p = false) : colOf p j = [] := by unfold colOf; simp [h]
theorem col_no_column {p : P} {j : Int} (h : decide (0 ≤ j ∧ j ≤ (p.C.length : Int) - 1) = false) : colOf p j = [] := by
 unfold colOf
 rw [decide_eq_false_iff_not] at h
 rw [if_neg (fun h2 => h ⟨h2.2.1, by omega⟩)]
theorem col_yes {p : P} {j : Nat} (h : Lp.vldP p = true) (hj : j < p.C.length) : colOf p j = Lp.col p j := by
 unfold colOf
 rw [if_pos ⟨h, by omega, by omega⟩]; rfl
theorem zeros_next (k : Nat) : Lp.zerosR (k + 1) = Lp.zerosR k ++ [(0, 1)] := by simp [Lp.zerosR, List.range_succ]
theorem zeros_len (k : Nat) : (Lp.zerosR k).length = k := by simp [Lp.zerosR]
end Go.Proofs.Ytjkofijchdibdaa
