/- Payoffs in plain terms: shares, excesses, the worst one, the core, imputations, the sorted list, the order of lists; nothing of the program. -/
import Derived.Test.YtpjnjidbdpfdcaaGM
import Derived.Test.YtpjnjidbdpfdcaaGmM
namespace Go.Proofs.Ytpjnjidbdpfdcaa.Py
open Ve (R at_ addR addK)
open Gm (G)
def run (x : List R) : R → List Int → R × Bool
 | acc, [] => (acc, true)
 | acc, m :: r => if 0 ≤ m ∧ m < x.length then (if addK acc (at_ x m.toNat) then run x (addR acc (at_ x m.toNat)) r else ((0, 0), false)) else ((0, 0), false)
theorem run_out {x : List R} {acc : R} {m : Int} {r : List Int} (h : ¬ (0 ≤ m ∧ m < x.length)) : run x acc (m :: r) = ((0, 0), false) := by unfold run; rw [if_neg h]
theorem run_no {x : List R} {acc : R} {k : Nat} {r : List Int} (h : k < x.length) (ha : addK acc (at_ x k) = false) : run x acc ((k : Int) :: r) = ((0, 0), false) := by
 unfold run; rw [if_pos ⟨by omega, by omega⟩, Int.toNat_natCast, ha]; rfl
theorem run_yes {x : List R} {acc : R} {k : Nat} {r : List Int} (h : k < x.length) (ha : addK acc (at_ x k) = true) : run x acc ((k : Int) :: r) = run x (addR acc (at_ x k)) r := by
 rw [run, if_pos ⟨by omega, by omega⟩, Int.toNat_natCast, ha, if_pos rfl]
theorem run_fail {x : List R} : ∀ {ms : List Int} {acc : R}, (run x acc ms).2 = false → (run x acc ms).1 = (0, 0)
 | [], acc, h => by simp [run] at h
 | m :: r, acc, h => by
  unfold run at h ⊢
  split
  ·
   rename_i h1
   rw [if_pos h1] at h
   split
   ·
    rename_i h2
    rw [if_pos h2] at h
    exact run_fail h
   ·
    rfl
  ·
   rfl
theorem run_all {x : List R} : ∀ {ms : List Int} {acc : R}, (run x acc ms).2 = true → ∀ m ∈ ms, m.toNat < x.length ∧ Ve.vld (at_ x m.toNat) = true
 | [], acc, _, m, hm => by simp at hm
 | m :: r, acc, h, p, hp => by
  unfold run at h
  split at h
  ·
   rename_i h1
   split at h
   ·
    rename_i h2
    rcases List.mem_cons.1 hp with rfl | hp
    ·
     exact ⟨by omega, (Ve.addK_vld h2).2⟩
    ·
     exact run_all h p hp
   ·
    simp at h
  ·
   simp at h
theorem run_vld {x : List R} : ∀ {ms : List Int} {acc : R}, Ve.vld acc = true → (run x acc ms).2 = true → Ve.vld (run x acc ms).1 = true
 | [], acc, h, _ => h
 | m :: r, acc, hv, h => by
  unfold run at h ⊢
  split at h
  ·
   rename_i h1
   rw [if_pos h1]
   split at h
   ·
    rename_i h2
    rw [if_pos h2]
    exact run_vld (Ve.add_vld h2) h
   ·
    simp at h
  ·
   simp at h
def share (x : List R) (s : Int) : R × Bool := if Co.good s then run x (0, 1) (Co.mem s 5) else ((0, 0), false)
theorem share_yes {x : List R} {s : Int} (h : Co.good s = true) : share x s = run x (0, 1) (Co.mem s 5) := if_pos h
theorem share_no {x : List R} {s : Int} (h : Co.good s = false) : share x s = ((0, 0), false) := by unfold share; rw [h]; rfl
theorem share_fail {x : List R} {s : Int} (h : (share x s).2 = false) : (share x s).1 = (0, 0) := by
 rcases hg : Co.good s with _ | _
 ·
  rw [share_no hg]
 ·
  rw [share_yes hg] at h ⊢; exact run_fail h
def subR (x y : R) : R := (Ra.opN (Ra.two x.1 x.2 y.1 y.2) (x.1 * y.2 - y.1 * x.2) (x.2 * y.2), Ra.opD (Ra.two x.1 x.2 y.1 y.2) (x.1 * y.2 - y.1 * x.2) (x.2 * y.2))
def subK (x y : R) : Bool := Ra.opK (Ra.two x.1 x.2 y.1 y.2) (x.1 * y.2 - y.1 * x.2) (x.2 * y.2)
theorem sub_no {x y : R} (h : subK x y = false) : subR x y = (0, 0) := by
 obtain ⟨h1, h2⟩ := Ve.op_zero h
 unfold subR
 rw [h1, h2]
theorem subK_right (x y : R) (h : Ve.vld y = false) : subK x y = false := by unfold subK; rw [Ve.two_right x y h]; rfl
theorem sub_vld {x y : R} (h : subK x y = true) : Ve.vld (subR x y) = true := by
 obtain ⟨_, f, e1, e2⟩ := Ra.op_true h
 unfold Ve.vld subR
 rw [e1, e2]
 exact Ra.fits_vld f
def cmp (x y : R) : Int := Ra.cmp x.1 x.2 y.1 y.2
theorem cmp_bd (x y : R) : -1 ≤ cmp x y ∧ cmp x y ≤ 1 := by
 unfold cmp Ra.cmp
 split
 ·
  split
  ·
   omega
  ·
   split <;> omega
 ·
  omega
def all (g : G) : Int := (g.v.length : Int) - 1
def isPay (g : G) (x : List R) : Bool := Gm.vld g && (decide ((x.length : Int) = g.n) && decide (share x (all g) = ((Gm.grand g, 1), true)))
theorem isPay_vld {g : G} {x : List R} (h : Gm.vld g = false) : isPay g x = false := by unfold isPay; rw [h]; rfl
theorem isPay_len {g : G} {x : List R} (h : decide ((x.length : Int) = g.n) = false) : isPay g x = false := by unfold isPay; rw [h]; simp
theorem isPay_is {g : G} {x : List R} (h : Gm.vld g = true) (h2 : decide ((x.length : Int) = g.n) = true) : isPay g x = decide (share x (all g) = ((Gm.grand g, 1), true)) := by unfold isPay; rw [h, h2]; rfl
theorem isPay_parts {g : G} {x : List R} (h : isPay g x = true) : Gm.vld g = true ∧ (x.length : Int) = g.n ∧ share x (all g) = ((Gm.grand g, 1), true) := by
 unfold isPay at h
 simp only [Bool.and_eq_true, decide_eq_true_iff] at h
 exact ⟨h.1, h.2.1, h.2.2⟩
theorem mem_all : ∀ n : Fin 6, ∀ k : Fin 5, k.val < n.val → ((k.val : Nat) : Int) ∈ Co.mem (((2 ^ n.val : Nat) : Int) - 1) 5 := by decide +kernel
theorem all_good {g : G} (h : Gm.vld g = true) : Co.good (all g) = true := by
 have := Gm.vld_len h
 unfold all Co.good
 rw [decide_eq_true_iff]
 omega
theorem pay_valid {g : G} {x : List R} (h : Gm.vld g = true) (hl : (x.length : Int) = g.n) (hs : (share x (all g)).2 = true) : ∀ k, k < x.length → Ve.vld (at_ x k) = true := by
 intro k hk
 have hn := Gm.vld_n h
 have hp := Gm.vld_pow h
 rw [share_yes (all_good h)] at hs
 have hm := mem_all ⟨g.n.toNat, by omega⟩ ⟨k, by omega⟩ (by show k < g.n.toNat; omega)
 have hm' : (k : Int) ∈ Co.mem (all g) 5 := by unfold all; rw [hp]; exact hm
 have := (run_all hs _ hm').2
 rwa [Int.toNat_natCast] at this
def allV (x : List R) : Bool := decide (∀ k, k < x.length → Ve.vld (at_ x k) = true)
def whole (n : Int) : R := (n, 1)
def excAt (g : G) (x : List R) (s : Nat) : R × Bool := (subR (whole (g.v.getD s 0)) (share x s).1, subK (whole (g.v.getD s 0)) (share x s).1)
def excIn (g : G) (s : Int) : Bool := Gm.vld g && decide (0 ≤ s ∧ s ≤ (g.v.length : Int) - 1)
def exc (g : G) (x : List R) (s : Int) : R × Bool := if excIn g s then excAt g x s.toNat else ((0, 0), false)
theorem exc_no {g : G} {x : List R} {s : Int} (h : excIn g s = false) : exc g x s = ((0, 0), false) := by unfold exc; rw [h]; rfl
theorem excIn_vld {g : G} {s : Int} (h : Gm.vld g = false) : excIn g s = false := by unfold excIn; rw [h]; rfl
theorem excIn_out {g : G} {s : Int} (h : decide (0 ≤ s ∧ s ≤ (g.v.length : Int) - 1) = false) : excIn g s = false := by unfold excIn; rw [h]; simp
theorem excIn_parts {g : G} {s : Int} (h : excIn g s = true) : Gm.vld g = true ∧ ∃ k : Nat, s = k ∧ k < g.v.length := by
 unfold excIn at h
 simp only [Bool.and_eq_true, decide_eq_true_iff] at h
 exact ⟨h.1, s.toNat, by omega, by omega⟩
theorem excIn_nat {g : G} {k : Nat} (h : Gm.vld g = true) (hk : k < g.v.length) : excIn g (k : Int) = true := by
 unfold excIn; rw [h]; simp only [Bool.true_and, decide_eq_true_iff]; omega
theorem exc_yes {g : G} {x : List R} {k : Nat} (h : Gm.vld g = true) (hk : k < g.v.length) : exc g x (k : Int) = excAt g x k := by
 unfold exc; rw [excIn_nat h hk, if_pos rfl, Int.toNat_natCast]
theorem excAt_share {g : G} {x : List R} {s : Nat} (h : (share x s).2 = false) : excAt g x s = ((0, 0), false) := by
 have h1 : subK (whole (g.v.getD s 0)) (share x s).1 = false := by rw [share_fail h]; exact subK_right _ _ Ve.vld_zero
 unfold excAt
 rw [h1, sub_no h1]
theorem excAt_no {g : G} {x : List R} {s : Nat} (h : (excAt g x s).2 = false) : excAt g x s = ((0, 0), false) := by
 have h1 : subK (whole (g.v.getD s 0)) (share x s).1 = false := h
 unfold excAt
 rw [h1, sub_no h1]
theorem exc_vld {g : G} {x : List R} {s : Int} (h : (exc g x s).2 = true) : Ve.vld (exc g x s).1 = true := by
 unfold exc at h ⊢
 split
 ·
  rename_i h1; rw [if_pos h1] at h; exact sub_vld h
 ·
  rename_i h1; rw [if_neg h1] at h; cases h
def pre (g : G) (x : List R) (k : Nat) : List R := (List.range k).map fun j : Nat => (exc g x ((j : Int) + 1)).1
theorem pre_len (g : G) (x : List R) (k : Nat) : (pre g x k).length = k := by simp [pre]
theorem pre_more (g : G) (x : List R) (k : Nat) : pre g x (k + 1) = pre g x k ++ [(exc g x ((k : Int) + 1)).1] := by simp [pre, List.range_succ]
def fitsTo (g : G) (x : List R) : Nat → Bool
 | 0 => true
 | k + 1 => fitsTo g x k && (exc g x ((k : Int) + 1)).2
theorem fitsTo_no {g : G} {x : List R} {k n : Nat} (h : (exc g x ((k : Int) + 1)).2 = false) (hk : k < n) : fitsTo g x n = false := by
 induction n with
 | zero => omega
 | succ n ih =>
  unfold fitsTo
  by_cases e : k = n
  ·
   subst e; rw [h]; simp
  ·
   rw [ih (by omega)]; rfl
theorem fitsTo_at {g : G} {x : List R} : ∀ {n : Nat}, fitsTo g x n = true → ∀ k, k < n → (exc g x ((k : Int) + 1)).2 = true
 | n + 1, h, k, hk => by
  unfold fitsTo at h
  rw [Bool.and_eq_true] at h
  by_cases e : k = n
  ·
   subst e; exact h.2
  ·
   exact fitsTo_at h.1 k (by omega)
def okE (g : G) (x : List R) : Bool := isPay g x && fitsTo g x (g.v.length - 2)
def lst (g : G) (x : List R) : List R := if okE g x then pre g x (g.v.length - 2) else []
theorem okE_pay {g : G} {x : List R} (h : isPay g x = false) : okE g x = false := by unfold okE; rw [h]; rfl
theorem okE_is {g : G} {x : List R} (h : isPay g x = true) : okE g x = fitsTo g x (g.v.length - 2) := by unfold okE; rw [h]; rfl
theorem lst_no {g : G} {x : List R} (h : okE g x = false) : lst g x = [] := by unfold lst; rw [h]; rfl
theorem lst_yes {g : G} {x : List R} (h : okE g x = true) : lst g x = pre g x (g.v.length - 2) := if_pos h
theorem okE_parts {g : G} {x : List R} (h : okE g x = true) : isPay g x = true ∧ fitsTo g x (g.v.length - 2) = true := by unfold okE at h; rw [Bool.and_eq_true] at h; exact h
theorem lst_len (g : G) (x : List R) : (lst g x).length ≤ 30 := by
 rcases h : okE g x with _ | _
 ·
  rw [lst_no h]; simp
 ·
  rw [lst_yes h, pre_len]
  have := (Gm.vld_len (isPay_parts (okE_parts h).1).1).2
  omega
theorem lst_vld (g : G) (x : List R) : ∀ y ∈ lst g x, Ve.vld y = true := by
 intro y hy
 rcases h : okE g x with _ | _
 ·
  rw [lst_no h] at hy; simp at hy
 ·
  rw [lst_yes h] at hy
  simp only [pre, List.mem_map, List.mem_range] at hy
  obtain ⟨k, hk, rfl⟩ := hy
  exact exc_vld (fitsTo_at (okE_parts h).2 k hk)
def mx (l : List R) : Nat → R
 | 0 => at_ l 0
 | k + 1 => if 0 < cmp (at_ l (k + 1)) (mx l k) then at_ l (k + 1) else mx l k
theorem mx_yes {l : List R} {k : Nat} (h : decide (0 < cmp (at_ l (k + 1)) (mx l k)) = true) : mx l (k + 1) = at_ l (k + 1) := by rw [mx, if_pos (of_decide_eq_true h)]
theorem mx_no {l : List R} {k : Nat} (h : decide (0 < cmp (at_ l (k + 1)) (mx l k)) = false) : mx l (k + 1) = mx l k := by rw [mx, if_neg (of_decide_eq_false h)]
theorem cmp_self (x : R) : cmp x x = 0 := Ra.cmp_eq rfl
def tied (l : List R) (b : R) : Nat → List Int
 | 0 => []
 | k + 1 => if at_ l k = b then tied l b k ++ [(k : Int) + 1] else tied l b k
theorem tied_yes {l : List R} {b : R} {k : Nat} (h : at_ l k = b) : tied l b (k + 1) = tied l b k ++ [(k : Int) + 1] := by rw [tied, if_pos h]
theorem tied_no {l : List R} {b : R} {k : Nat} (h : at_ l k ≠ b) : tied l b (k + 1) = tied l b k := by rw [tied, if_neg h]
theorem tied_len (l : List R) (b : R) : ∀ k, (tied l b k).length ≤ k
 | 0 => by simp [tied]
 | k + 1 => by have := tied_len l b k; unfold tied; split <;> simp <;> omega
def some_ (g : G) (x : List R) : Bool := okE g x && decide ((lst g x).length ≠ 0)
def worst (g : G) (x : List R) : R := if some_ g x then mx (lst g x) ((lst g x).length - 1) else (0, 0)
def worstL (g : G) (x : List R) : List Int := if some_ g x then tied (lst g x) (mx (lst g x) ((lst g x).length - 1)) (lst g x).length else []
theorem some_ok {g : G} {x : List R} (h : okE g x = false) : some_ g x = false := by unfold some_; rw [h]; rfl
theorem some_len {g : G} {x : List R} (h : (lst g x).length = 0) : some_ g x = false := by unfold some_; rw [h]; simp
theorem some_is {g : G} {x : List R} (h : okE g x = true) (h2 : (lst g x).length ≠ 0) : some_ g x = true := by unfold some_; rw [h]; simpa using h2
theorem worst_no {g : G} {x : List R} (h : some_ g x = false) : worst g x = (0, 0) ∧ worstL g x = [] := by unfold worst worstL; rw [h]; exact ⟨rfl, rfl⟩
theorem worst_yes {g : G} {x : List R} (h : some_ g x = true) : worst g x = mx (lst g x) ((lst g x).length - 1) ∧ worstL g x = tied (lst g x) (mx (lst g x) ((lst g x).length - 1)) (lst g x).length := ⟨if_pos h, if_pos h⟩
def low (l : List R) : Nat → Bool
 | 0 => true
 | k + 1 => low l k && decide ((at_ l k).1 ≤ 0)
theorem low_no {l : List R} {k n : Nat} (h : 0 < (at_ l k).1) (hk : k < n) : low l n = false := by
 induction n with
 | zero => omega
 | succ n ih =>
  unfold low
  by_cases e : k = n
  ·
   subst e; rw [decide_eq_false (by omega)]; simp
  ·
   rw [ih (by omega)]; rfl
theorem low_yes {l : List R} {k : Nat} (h : low l k = true) (h2 : ¬ 0 < (at_ l k).1) : low l (k + 1) = true := by unfold low; rw [h, decide_eq_true (by omega)]; rfl
def inC (g : G) (x : List R) : Bool := okE g x && low (lst g x) (lst g x).length
def fair (g : G) (x : List R) : Nat → Bool
 | 0 => true
 | k + 1 => fair g x k && !decide (cmp (at_ x k) (whole (Gm.val g ((2 ^ k : Nat) : Int))) < 0)
theorem fair_no {g : G} {x : List R} {k n : Nat} (h : decide (cmp (at_ x k) (whole (Gm.val g ((2 ^ k : Nat) : Int))) < 0) = true) (hk : k < n) : fair g x n = false := by
 induction n with
 | zero => omega
 | succ n ih =>
  unfold fair
  by_cases e : k = n
  ·
   subst e; rw [h]; simp
  ·
   rw [ih (by omega)]; rfl
theorem fair_yes {g : G} {x : List R} {k : Nat} (h : fair g x k = true) (h2 : decide (cmp (at_ x k) (whole (Gm.val g ((2 ^ k : Nat) : Int))) < 0) = false) : fair g x (k + 1) = true := by unfold fair; rw [h, h2]; rfl
def cnt (x : List R) : Nat := if x.length < 5 then x.length else 5
theorem cnt_le (x : List R) : cnt x ≤ x.length ∧ cnt x ≤ 5 := by unfold cnt; split <;> omega
theorem cnt_is {x : List R} {k : Nat} (h1 : k < x.length) (h2 : k < 5) : k < cnt x := by unfold cnt; split <;> omega
theorem cnt_end {x : List R} {k : Nat} (h0 : k ≤ cnt x) (h1 : ¬ (k < x.length ∧ k < 5)) : k = cnt x := by unfold cnt at *; split at h0 <;> split <;> omega
theorem cnt_pay {g : G} {x : List R} (h : isPay g x = true) : cnt x = x.length := by
 have h1 := isPay_parts h
 have := Gm.vld_n h1.1
 unfold cnt
 split <;> omega
def imp (g : G) (x : List R) : Bool := isPay g x && fair g x (cnt x)
def spot (l : List R) (x : R) : Nat → Nat
 | 0 => 0
 | k + 1 => if cmp (at_ l k) x < 0 then spot l x k else k + 1
theorem spot_le (l : List R) (x : R) : ∀ k, spot l x k ≤ k
 | 0 => by simp [spot]
 | k + 1 => by have := spot_le l x k; unfold spot; split <;> omega
theorem spot_yes {l : List R} {x : R} {k : Nat} (h : decide (cmp (at_ l k) x < 0) = true) : spot l x (k + 1) = spot l x k := by rw [spot, if_pos (of_decide_eq_true h)]
theorem spot_no {l : List R} {x : R} {k : Nat} (h : decide (cmp (at_ l k) x < 0) = false) : spot l x (k + 1) = k + 1 := by rw [spot, if_neg (of_decide_eq_false h)]
def ins (l : List R) (x : R) : List R := l.take (spot l x l.length) ++ [x] ++ l.drop (spot l x l.length)
theorem ins_len (l : List R) (x : R) : (ins l x).length = l.length + 1 := by have := spot_le l x l.length; simp [ins]; omega
def srt (l : List R) : Nat → List R
 | 0 => []
 | k + 1 => ins (srt l k) (at_ l k)
theorem srt_len (l : List R) : ∀ k, (srt l k).length = k
 | 0 => rfl
 | k + 1 => by rw [srt, ins_len, srt_len l k]
def vec (g : G) (x : List R) : List R := srt (lst g x) (lst g x).length
theorem vec_len (g : G) (x : List R) : (vec g x).length = (lst g x).length := srt_len _ _
def cmpL : List R → List R → Int
 | [], [] => 0
 | [], _ :: _ => -1
 | _ :: _, [] => 1
 | x :: xs, y :: ys => if cmp x y = 0 then cmpL xs ys else cmp x y
theorem cmpL_more {a b : List R} {k : Nat} (ha : k < a.length) (hb : k < b.length) (h : cmp (at_ a k) (at_ b k) = 0) : cmpL (a.drop k) (b.drop k) = cmpL (a.drop (k + 1)) (b.drop (k + 1)) := by
 rw [List.drop_eq_getElem_cons ha, List.drop_eq_getElem_cons hb, cmpL]
 have e1 : a[k] = at_ a k := by simp [at_, ha]
 have e2 : b[k] = at_ b k := by simp [at_, hb]
 rw [e1, e2, if_pos h]
theorem cmpL_stop {a b : List R} {k : Nat} (ha : k < a.length) (hb : k < b.length) (h : cmp (at_ a k) (at_ b k) ≠ 0) : cmpL (a.drop k) (b.drop k) = cmp (at_ a k) (at_ b k) := by
 rw [List.drop_eq_getElem_cons ha, List.drop_eq_getElem_cons hb, cmpL]
 have e1 : a[k] = at_ a k := by simp [at_, ha]
 have e2 : b[k] = at_ b k := by simp [at_, hb]
 rw [e1, e2, if_neg h]
theorem cmpL_lt {a b : List R} {k : Nat} (ha : a.length ≤ k) (hb : k < b.length) : cmpL (a.drop k) (b.drop k) = -1 := by
 rw [List.drop_eq_getElem_cons hb, List.drop_eq_nil_of_le ha, cmpL]
theorem cmpL_gt {a b : List R} {k : Nat} (ha : k < a.length) (hb : b.length ≤ k) : cmpL (a.drop k) (b.drop k) = 1 := by
 rw [List.drop_eq_getElem_cons ha, List.drop_eq_nil_of_le hb, cmpL]
theorem cmpL_end {a b : List R} {k : Nat} (ha : a.length ≤ k) (hb : b.length ≤ k) : cmpL (a.drop k) (b.drop k) = 0 := by
 rw [List.drop_eq_nil_of_le ha, List.drop_eq_nil_of_le hb, cmpL]
end Go.Proofs.Ytpjnjidbdpfdcaa.Py
