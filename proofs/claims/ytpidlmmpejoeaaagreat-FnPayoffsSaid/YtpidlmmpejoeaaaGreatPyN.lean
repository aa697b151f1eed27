/- A list of excesses sorted: there is one way alone; nothing of the program. -/
import Derived.Test.YtpidlmmpejoeaaaGreatPyM
import Derived.Shelf.SlSortCmp.Insertion
import Derived.Sort.Statements
namespace Go.Proofs.YtpidlmmpejoeaaaGreat.Py
open Ve (R at_)
open Go.Sort
abbrev V : Type := {x : R // Ve.vld x = true}
instance : Inhabited V := ⟨⟨(0, 1), by decide⟩⟩
theorem cmp_lt {x y : R} (hx : Ve.vld x = true) (hy : Ve.vld y = true) : cmp x y < 0 ↔ Ve.val x < Ve.val y := Lp.cmp_val hx hy
def turn (x y : V) : Int := cmp y.1 x.1
theorem turn_lt (x y : V) : ltOf turn x y = decide (Ve.val y.1 < Ve.val x.1) := by
 unfold ltOf turn
 rw [Bool.eq_iff_iff, decide_eq_true_iff, decide_eq_true_iff]
 exact cmp_lt y.2 x.2
theorem turn_swo : SWO (ltOf turn) where
 irrefl x := by rw [turn_lt, decide_eq_false_iff_not]; exact Rat.lt_irrefl
 trans x y z h1 h2 := by
  rw [turn_lt, decide_eq_true_iff] at *
  grind
 ntrans x y z h1 h2 := by
  rw [turn_lt, decide_eq_false_iff_not] at *
  rw [Rat.not_lt] at *
  exact Rat.le_trans h1 h2
theorem val_inj {x y : R} (hx : Ve.vld x = true) (hy : Ve.vld y = true) (h : Ve.val x = Ve.val y) : x = y := by
 have h1 := Ve.den_ne hx
 have h2 := Ve.den_ne hy
 unfold Ve.val at h
 have h3 : (x.1 : Rat) * (y.2 : Rat) = (y.1 : Rat) * (x.2 : Rat) := by grind
 have h4 : x.1 * y.2 = y.1 * x.2 := by
  rw [← Rat.intCast_mul, ← Rat.intCast_mul] at h3
  exact Rat.intCast_inj.1 h3
 have := Ra.canon hx hy h4
 exact Prod.ext this.1 this.2
def Desc (l : List R) : Prop := l.Pairwise fun a b => Ve.val b ≤ Ve.val a
theorem desc_one {l m : List R} (hp : l.Perm m) (hl : Desc l) (hm : Desc m) (hv : ∀ y ∈ l, Ve.vld y = true) : l = m := by
 refine List.Perm.eq_of_pairwise (le := fun a b => Ve.val b ≤ Ve.val a) ?_ hl hm hp
 intro a b ha hb h1 h2
 exact val_inj (hv a ha) (hv b (hp.mem_iff.2 hb)) (Rat.le_antisymm h2 h1)
theorem spot_low {l : List R} {x : R} (hv : ∀ y ∈ l, Ve.vld y = true) (hx : Ve.vld x = true) : ∀ k, k ≤ l.length → ∀ j, spot l x k ≤ j → j < k → Ve.val (at_ l j) < Ve.val x
 | 0, _, j, _, h => by omega
 | k + 1, hk, j, h1, h2 => by
  unfold spot at h1
  split at h1
  ·
   rename_i hc
   by_cases e : j = k
   ·
    subst e
    exact (cmp_lt (hv _ (by simp [at_, show j < l.length by omega])) hx).1 hc
   ·
    exact spot_low hv hx k (by omega) j h1 (by omega)
  ·
   omega
theorem spot_high {l : List R} {x : R} (hv : ∀ y ∈ l, Ve.vld y = true) (hx : Ve.vld x = true) : ∀ k, k ≤ l.length → spot l x k = 0 ∨ ∃ j, j + 1 = spot l x k ∧ j < l.length ∧ Ve.val x ≤ Ve.val (at_ l j)
 | 0, _ => .inl rfl
 | k + 1, hk => by
  unfold spot
  split
  ·
   exact spot_high hv hx k (by omega)
  ·
   rename_i hc
   refine .inr ⟨k, rfl, by omega, ?_⟩
   rw [cmp_lt (hv _ (by simp [at_, show k < l.length by omega])) hx, Rat.not_lt] at hc
   exact hc
theorem at_eq {l : List R} {j : Nat} (h : j < l.length) : at_ l j = l[j] := by simp [at_, h]
theorem ins_desc {l : List R} {x : R} (hd : Desc l) (hv : ∀ y ∈ l, Ve.vld y = true) (hx : Ve.vld x = true) : Desc (ins l x) := by
 have hs := spot_le l x l.length
 have hlow := spot_low hv hx l.length (Nat.le_refl _)
 have hhigh := spot_high hv hx l.length (Nat.le_refl _)
 unfold ins
 generalize spot l x l.length = s at *
 have hd' := List.pairwise_iff_getElem.1 hd
 unfold Desc
 rw [List.append_assoc, List.pairwise_append]
 have hT : ∀ a ∈ l.take s, Ve.val x ≤ Ve.val a := by
  intro a ha
  obtain ⟨i, hi, rfl⟩ := List.getElem_of_mem ha
  rw [List.length_take] at hi
  rw [List.getElem_take]
  rcases hhigh with h0 | ⟨j, hj, hjl, hjx⟩
  ·
   omega
  ·
   rw [at_eq hjl] at hjx
   by_cases e : i = j
   ·
    subst e; exact hjx
   ·
    exact Rat.le_trans hjx (hd' i j (by omega) hjl (by omega))
 have hD : ∀ b ∈ l.drop s, Ve.val b ≤ Ve.val x := by
  intro b hb
  obtain ⟨i, hi, rfl⟩ := List.getElem_of_mem hb
  rw [List.length_drop] at hi
  rw [List.getElem_drop]
  have := hlow (s + i) (by omega) (by omega)
  rw [at_eq (by omega)] at this
  exact Rat.le_of_lt this
 refine ⟨List.Pairwise.sublist (List.take_sublist s l) hd, ?_, ?_⟩
 ·
  rw [List.singleton_append, List.pairwise_cons]
  exact ⟨hD, List.Pairwise.sublist (List.drop_sublist s l) hd⟩
 ·
  intro a ha b hb
  rw [List.singleton_append, List.mem_cons] at hb
  rcases hb with rfl | hb
  ·
   exact hT a ha
  ·
   exact Rat.le_trans (hD b hb) (hT a ha)
theorem ins_perm (l : List R) (x : R) : (ins l x).Perm (x :: l) := by
 unfold ins
 generalize spot l x l.length = s
 rw [List.append_assoc, List.singleton_append]
 refine List.perm_middle.trans ?_
 rw [List.take_append_drop]
theorem srt_perm (l : List R) : ∀ k, k ≤ l.length → (srt l k).Perm (l.take k)
 | 0, _ => by simp [srt]
 | k + 1, h => by
  rw [srt, List.take_add_one, at_eq (show k < l.length by omega), List.getElem?_eq_getElem (show k < l.length by omega)]
  refine (ins_perm _ _).trans ?_
  refine ((srt_perm l k (by omega)).cons _).trans ?_
  exact (List.perm_append_singleton _ _).symm
theorem srt_vld {l : List R} (hv : ∀ y ∈ l, Ve.vld y = true) (k : Nat) (hk : k ≤ l.length) : ∀ y ∈ srt l k, Ve.vld y = true := fun y hy => hv y (List.mem_of_mem_take ((srt_perm l k hk).mem_iff.1 hy))
theorem srt_desc {l : List R} (hv : ∀ y ∈ l, Ve.vld y = true) : ∀ k, k ≤ l.length → Desc (srt l k)
 | 0, _ => List.Pairwise.nil
 | k + 1, h => ins_desc (srt_desc hv k (by omega)) (srt_vld hv k (by omega)) (hv _ (by simp [at_, show k < l.length by omega]))
theorem sorted_is {l : List R} (hv : ∀ y ∈ l, Ve.vld y = true) {d d' : Array V} (hd : d.toList.map Subtype.val = l) (hp : PermIn 0 d.size d d') (hs : SortedIn (ltOf turn) 0 d.size d') : d'.toList.map Subtype.val = srt l l.length := by
 obtain ⟨h1, _, h3⟩ := hp
 have e1 : d.extract 0 d.size = d := by simp
 have e2 : d'.extract 0 d.size = d' := by rw [← h1]; simp
 rw [e1, e2] at h3
 have hperm : (d'.toList.map Subtype.val).Perm l := hd ▸ h3.map _
 have hdesc : Desc (d'.toList.map Subtype.val) := by
  unfold Desc
  rw [List.pairwise_iff_getElem]
  intro i j hi hj hij
  simp only [List.length_map, Array.length_toList] at hi hj
  have := hs i j (Nat.zero_le _) hij (by omega)
  rw [turn_lt, decide_eq_false_iff_not, Rat.not_lt, getElem!_pos d' i hi, getElem!_pos d' j hj] at this
  simpa using this
 have hs2 := srt_perm l l.length (Nat.le_refl _)
 rw [List.take_length] at hs2
 exact desc_one (hperm.trans hs2.symm) hdesc (srt_desc hv _ (Nat.le_refl _)) (fun y hy => hv y (hperm.mem_iff.1 hy))
end Go.Proofs.YtpidlmmpejoeaaaGreat.Py
