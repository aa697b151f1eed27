/- Of the excesses sorted and the worst one; nothing of the program. -/
import Derived.Test.YtpidlmmpejoeaaaGreatPyN
namespace Go.Proofs.YtpidlmmpejoeaaaGreat.Py
open Ve (R at_)
open Gm (G)
theorem cmp_swap (x y : R) : (0 < cmp x y ↔ cmp y x < 0) := by
 have h2 : Ra.two y.1 y.2 x.1 x.2 = Ra.two x.1 x.2 y.1 y.2 := Bool.and_comm _ _
 unfold cmp Ra.cmp
 rw [h2]
 generalize x.1 * y.2 = a
 generalize y.1 * x.2 = b
 cases Ra.two x.1 x.2 y.1 y.2
 ·
  simp
 ·
  simp only [if_true]
  by_cases h1 : a < b
  ·
   have h3 : ¬ b < a := by omega
   simp [h1, h3]
  ·
   by_cases h3 : b < a
   ·
    simp [h1, h3]
   ·
    simp [h1, h3]
theorem cmp_gt {x y : R} (hx : Ve.vld x = true) (hy : Ve.vld y = true) : (0 < cmp x y ↔ Ve.val y < Ve.val x) := (cmp_swap x y).trans (cmp_lt hy hx)
theorem at_mem {l : List R} {k : Nat} (h : k < l.length) : at_ l k ∈ l := by rw [at_eq h]; exact List.getElem_mem h
theorem mx_mem {l : List R} : ∀ k, k < l.length → mx l k ∈ l
 | 0, h => at_mem h
 | k + 1, h => by
  unfold mx
  split
  ·
   exact at_mem h
  ·
   exact mx_mem k (by omega)
theorem mx_top {l : List R} (hv : ∀ y ∈ l, Ve.vld y = true) : ∀ k, k < l.length → ∀ j, j ≤ k → Ve.val (at_ l j) ≤ Ve.val (mx l k)
 | 0, _, j, hj => by
  obtain rfl : j = 0 := by omega
  exact Rat.le_refl
 | k + 1, h, j, hj => by
  have h1 := cmp_gt (hv _ (at_mem h)) (hv _ (mx_mem k (by omega)))
  unfold mx
  split
  ·
   rename_i hc
   have h2 := Rat.le_of_lt (h1.1 hc)
   by_cases e : j = k + 1
   ·
    subst e; exact Rat.le_refl
   ·
    exact Rat.le_trans (mx_top hv k (by omega) j (by omega)) h2
  ·
   rename_i hc
   rw [h1, Rat.not_lt] at hc
   by_cases e : j = k + 1
   ·
    subst e; exact hc
   ·
    exact mx_top hv k (by omega) j (by omega)
theorem vec_step (g : G) (x : List R) (k : Nat) (h : k + 1 < (vec g x).length) : ¬ cmp (at_ (vec g x) k) (at_ (vec g x) (k + 1)) < 0 := by
 have hv := srt_vld (lst_vld g x) _ (Nat.le_refl (lst g x).length)
 have hd := srt_desc (lst_vld g x) _ (Nat.le_refl (lst g x).length)
 rw [cmp_lt (hv _ (at_mem (l := vec g x) (by omega))) (hv _ (at_mem (l := vec g x) h)), Rat.not_lt, at_eq (show k < (vec g x).length by omega), at_eq h]
 exact List.pairwise_iff_getElem.1 hd k (k + 1) (by have := h; unfold vec at this; omega) h (by omega)
theorem some_pos {g : G} {x : List R} (h : some_ g x = true) : 0 < (lst g x).length ∧ okE g x = true := by
 unfold some_ at h
 rw [Bool.and_eq_true, decide_eq_true_iff] at h
 exact ⟨by omega, h.1⟩
theorem vec_fst {g : G} {x : List R} (h : some_ g x = true) : 0 < (vec g x).length ∧ at_ (vec g x) 0 = worst g x := by
 obtain ⟨hp, _⟩ := some_pos h
 have hpv : 0 < (vec g x).length := by rw [vec_len]; exact hp
 have hl := lst_vld g x
 have hd := srt_desc hl _ (Nat.le_refl (lst g x).length)
 have hperm := srt_perm (lst g x) _ (Nat.le_refl (lst g x).length)
 rw [List.take_length] at hperm
 refine ⟨hpv, ?_⟩
 rw [(worst_yes h).1]
 have hm := mx_mem (l := lst g x) ((lst g x).length - 1) (by omega)
 have ha := at_mem (l := vec g x) hpv
 have hal : at_ (vec g x) 0 ∈ lst g x := hperm.mem_iff.1 ha
 have hmv : mx (lst g x) ((lst g x).length - 1) ∈ vec g x := hperm.mem_iff.2 hm
 refine val_inj (hl _ hal) (hl _ hm) (Rat.le_antisymm ?_ ?_)
 ·
  obtain ⟨j, hj, e⟩ := List.getElem_of_mem hal
  rw [← e, ← at_eq hj]
  exact mx_top hl _ (by omega) j (by omega)
 ·
  obtain ⟨j, hj, e⟩ := List.getElem_of_mem hmv
  rw [← e, at_eq hpv]
  by_cases e0 : j = 0
  ·
   subst e0; exact Rat.le_refl
  ·
   exact List.pairwise_iff_getElem.1 hd 0 j hpv hj (by omega)
theorem low_all {l : List R} : ∀ n, (∀ k, k < n → (at_ l k).1 ≤ 0) → low l n = true
 | 0, _ => rfl
 | n + 1, h => low_yes (low_all n fun k hk => h k (by omega)) (by have := h n (by omega); omega)
theorem inC_fine {g : G} {x : List R} (h : some_ g x = true) : inC g x = decide ((worst g x).1 ≤ 0) := by
 obtain ⟨hp, hk⟩ := some_pos h
 have hl := lst_vld g x
 have hm := mx_mem (l := lst g x) ((lst g x).length - 1) (by omega)
 unfold inC
 rw [hk, Bool.true_and, (worst_yes h).1]
 by_cases h0 : (mx (lst g x) ((lst g x).length - 1)).1 ≤ 0
 ·
  rw [decide_eq_true h0]
  refine low_all _ fun k hk2 => ?_
  have h1 := mx_top hl _ (show (lst g x).length - 1 < (lst g x).length by omega) k (by omega)
  have h2 := Lp.val_pos (hl _ (at_mem hk2))
  have h3 := Lp.val_pos (hl _ hm)
  have h4 : ¬ (0 : Rat) < Ve.val (mx (lst g x) ((lst g x).length - 1)) := fun h => by have := h3.1 h; omega
  rw [Rat.not_lt] at h4
  have h5 : ¬ (0 : Rat) < Ve.val (at_ (lst g x) k) := Rat.not_lt.2 (Rat.le_trans h1 h4)
  have : ¬ 0 < (at_ (lst g x) k).1 := fun h => h5 (h2.2 h)
  omega
 ·
  rw [decide_eq_false h0]
  obtain ⟨j, hj, e⟩ := List.getElem_of_mem hm
  exact low_no (k := j) (by rw [at_eq hj, e]; omega) hj
end Go.Proofs.YtpidlmmpejoeaaaGreat.Py
