/- The core in plain terms: the LP of balanced collections, which are balanced, which results are right; nothing of the program. -/
import Derived.Test.YtpjnjidbdpfdcaaPyM
import Derived.Test.YtpjnjidbdpfdcaaGM
namespace Go.Proofs.Ytpjnjidbdpfdcaa.Cr
open Ve (R at_)
open Gm (G)
open Lp (P)
def bit (b : Bool) : Int := if b then 1 else 0
def mrow (j k : Nat) : List Int := (List.range k).map fun s : Nat => bit (Co.has ((s : Int) + 1) j)
theorem mrow_len (j k : Nat) : (mrow j k).length = k := by simp [mrow]
theorem mrow_more (j k : Nat) : mrow j (k + 1) = mrow j k ++ [bit (Co.has ((k : Int) + 1) j)] := by simp [mrow, List.range_succ]
theorem mrow_at {j k s : Nat} (h : s < k) : (mrow j k).getD s 0 = bit (Co.has ((s : Int) + 1) j) := by simp [mrow, List.getD_eq_getElem?_getD, h]
theorem bit_bd (b : Bool) : 0 ≤ bit b ∧ bit b ≤ 1 := by cases b <;> decide
def cost (g : G) (k : Nat) : List R := (List.range k).map fun s : Nat => (-(g.v.getD (s + 1) 0), 1)
theorem cost_len (g : G) (k : Nat) : (cost g k).length = k := by simp [cost]
theorem cost_more (g : G) (k : Nat) : cost g (k + 1) = cost g k ++ [(-(g.v.getD (k + 1) 0), 1)] := by simp [cost, List.range_succ]
theorem cost_at {g : G} {k s : Nat} (h : s < k) : at_ (cost g k) s = (-(g.v.getD (s + 1) 0), 1) := by simp [cost, at_, List.getD_eq_getElem?_getD, h]
def rowsTo (n k : Nat) : List (List Int) := (List.range k).map fun j => mrow j n
theorem rowsTo_len (n k : Nat) : (rowsTo n k).length = k := by simp [rowsTo]
theorem rowsTo_more (n k : Nat) : rowsTo n (k + 1) = rowsTo n k ++ [mrow k n] := by simp [rowsTo, List.range_succ]
def onesTo (k : Nat) : List Int := (List.range k).map fun _ => 1
theorem onesTo_len (k : Nat) : (onesTo k).length = k := by simp [onesTo]
theorem onesTo_more (k : Nat) : onesTo (k + 1) = onesTo k ++ [1] := by simp [onesTo, List.range_succ]
theorem onesTo_at {k i : Nat} (h : i < k) : (onesTo k).getD i 0 = 1 := by simp [onesTo, List.getD_eq_getElem?_getD, h]
def lp (g : G) : P := ⟨rowsTo (g.v.length - 1) g.n.toNat, onesTo g.n.toNat, cost g (g.v.length - 1)⟩
def lp0 : P := ⟨[], [], []⟩
def bal (g : G) : P := if Gm.vld g then lp g else lp0
theorem bal_yes {g : G} (h : Gm.vld g = true) : bal g = lp g := if_pos h
theorem bal_no {g : G} (h : Gm.vld g = false) : bal g = lp0 := by unfold bal; rw [h]; rfl
theorem lp_row {g : G} {j : Nat} (h : j < g.n.toNat) : Lp.row (lp g) j = mrow j (g.v.length - 1) := by
 simp [Lp.row, lp, rowsTo, List.getD_eq_getElem?_getD, h]
theorem small_bits (j k : Nat) : Lp.small (mrow j k) = true := by
 unfold Lp.small
 rw [List.all_eq_true]
 intro z hz
 unfold mrow at hz
 obtain ⟨s, _, rfl⟩ := List.mem_map.1 hz
 have := bit_bd (Co.has ((s : Int) + 1) j)
 rw [decide_eq_true_iff]
 omega
theorem lp_vld {g : G} (h : Gm.vld g = true) : Lp.vldP (lp g) = true := by
 have hn := Gm.vld_n h
 have hl := Gm.vld_len h
 have h1 : Lp.rows (lp g) = true := by
  unfold Lp.rows
  rw [List.all_eq_true]
  intro j hj
  have hj2 : j < g.n.toNat := by simpa [lp, rowsTo_len] using hj
  rw [lp_row hj2, small_bits]
  simp [mrow_len, lp, cost_len]
 have h2 : Lp.small (lp g).B = true := by
  unfold Lp.small
  rw [List.all_eq_true]
  intro z hz
  have : z = 1 := by
   have hz' : z ∈ onesTo g.n.toNat := hz
   unfold onesTo at hz'
   obtain ⟨_, _, rfl⟩ := List.mem_map.1 hz'
   rfl
  subst this
  decide
 have h3 : Ve.good (lp g).C = true := Ve.good_all fun k hk => by
  have hk2 : k < g.v.length - 1 := by simpa [lp, cost_len] using hk
  show Ve.vld (at_ (cost g (g.v.length - 1)) k) = true
  rw [cost_at hk2]
  have := Gm.vld_at h (k := k + 1) (by omega)
  exact Ra.vld_mk (by omega) (by omega) (by omega) (by omega) (by simp)
 unfold Lp.vldP
 rw [h1, h2, h3]
 simp [lp, cost_len, rowsTo_len, onesTo_len]
 omega
def sumOk (w : List R) (j : Nat) : Bool := Lp.idK (mrow j w.length) w && decide (Lp.idR (mrow j w.length) w = (1, 1))
def sumsOk (w : List R) : Nat → Bool
 | 0 => true
 | k + 1 => sumsOk w k && sumOk w k
theorem sumsOk_no {w : List R} {k n : Nat} (h : sumOk w k = false) (hk : k < n) : sumsOk w n = false := by
 induction n with
 | zero => omega
 | succ n ih =>
  unfold sumsOk
  by_cases e : k = n
  ·
   subst e; rw [h]; simp
  ·
   rw [ih (by omega)]; rfl
theorem sumsOk_yes {w : List R} {k : Nat} (h : sumsOk w k = true) (h2 : sumOk w k = true) : sumsOk w (k + 1) = true := by unfold sumsOk; rw [h, h2]; rfl
def shapeOk (n : Int) (w : List R) : Bool := decide (1 ≤ n ∧ n ≤ 5) && decide (w.length = 2 ^ n.toNat - 1)
def blc (n : Int) (w : List R) : Bool := shapeOk n w && (Lp.nonneg w && sumsOk w n.toNat)
theorem blc_shape {n : Int} {w : List R} (h : shapeOk n w = false) : blc n w = false := by unfold blc; rw [h]; rfl
theorem blc_neg {n : Int} {w : List R} (h : Lp.nonneg w = false) : blc n w = false := by unfold blc; rw [h]; simp
theorem blc_is {n : Int} {w : List R} (h : shapeOk n w = true) (h2 : Lp.nonneg w = true) : blc n w = sumsOk w n.toNat := by unfold blc; rw [h, h2]; rfl
theorem blc_parts {n : Int} {w : List R} (h : blc n w = true) : (1 ≤ n ∧ n ≤ 5) ∧ w.length = 2 ^ n.toNat - 1 ∧ Lp.nonneg w = true ∧ sumsOk w n.toNat = true := by
 unfold blc shapeOk at h
 simp only [Bool.and_eq_true, decide_eq_true_iff] at h
 exact ⟨h.1.1, h.1.2, h.2.1, h.2.2⟩
theorem sumsOk_all {w : List R} : ∀ {n : Nat}, sumsOk w n = (List.range n).all (sumOk w)
 | 0 => by simp [sumsOk]
 | n + 1 => by rw [sumsOk, sumsOk_all, List.range_succ, List.all_append]; simp
theorem blc_feas {g : G} (h : Gm.vld g = true) (w : List R) : Lp.feas (lp g) w = blc g.n w := by
 have hn := Gm.vld_n h
 have hp := Gm.vld_pow h
 have hl := Gm.vld_len h
 have e1 : (lp g).C.length = 2 ^ g.n.toNat - 1 := by show (cost g _).length = _; rw [cost_len, hp]
 have e2 : (lp g).A.length = g.n.toNat := rowsTo_len _ _
 unfold Lp.feas blc shapeOk
 rw [lp_vld h, decide_eq_true hn, e1]
 simp only [Bool.true_and]
 by_cases hw : w.length = 2 ^ g.n.toNat - 1
 ·
  rw [decide_eq_true hw]
  simp only [Bool.true_and]
  congr 1
  unfold Lp.gives
  rw [sumsOk_all, e2]
  rw [Bool.eq_iff_iff, List.all_eq_true, List.all_eq_true]
  have each : ∀ j, j < g.n.toNat → (Lp.idK (Lp.row (lp g) j) w && decide (Lp.idR (Lp.row (lp g) j) w = ((lp g).B.getD j 0, 1))) = sumOk w j := fun j hj => by
   rw [lp_row hj, show (lp g).B.getD j 0 = 1 from onesTo_at hj, hp, ← hw]
   rfl
  constructor
  ·
   intro ha j hj
   rw [← each j (List.mem_range.1 hj)]
   exact ha j hj
  ·
   intro ha j hj
   rw [each j (List.mem_range.1 hj)]
   exact ha j hj
 ·
  rw [decide_eq_false hw]
  rfl
def nil_ (n : Int) : G := ⟨n, Lp.zerosI (2 ^ n.toNat)⟩
theorem nil_vld {n : Int} (h : 1 ≤ n ∧ n ≤ 5) : Gm.vld (nil_ n) = true := by
 have hp := Gm.pow_bd h
 unfold Gm.vld Gm.shape Gm.within Gm.zero0
 simp only [Bool.and_eq_true, decide_eq_true_iff, List.all_eq_true]
 refine ⟨⟨h, by simp [nil_, Lp.zerosI]⟩, ?_, ?_⟩
 ·
  intro x hx
  have hx' : x ∈ Lp.zerosI (2 ^ n.toNat) := hx
  unfold Lp.zerosI at hx'
  obtain ⟨_, _, rfl⟩ := List.mem_map.1 hx'
  decide
 ·
  exact Lp.zerosI_at _ _
structure Cor where
 code : Int
 point : List R
 weights : List R
def worthK (g : G) (w : List R) : Bool := Lp.idK (g.v.drop 1) w && decide (0 < Py.cmp (Lp.idR (g.v.drop 1) w) (Py.whole (Gm.grand g)))
def more (g : G) (w : List R) : Bool := blc g.n w && worthK g w
def chkC (g : G) (r : Cor) : Bool := Gm.vld g && (if r.code = 1 then Py.inC g r.point else if r.code = 2 then more g r.weights else false)
theorem chk_bad {g : G} {r : Cor} (h : Gm.vld g = false) : chkC g r = false := by unfold chkC; rw [h]; rfl
theorem chk_point {g : G} {r : Cor} (h : Gm.vld g = true) (hc : r.code = 1) : chkC g r = Py.inC g r.point := by unfold chkC; rw [h, if_pos hc]; rfl
theorem chk_empty {g : G} {r : Cor} (h : Gm.vld g = true) (hc : r.code = 2) : chkC g r = more g r.weights := by unfold chkC; rw [h, if_neg (by omega), if_pos hc]; rfl
theorem chk_other {g : G} {r : Cor} (h1 : r.code ≠ 1) (h2 : r.code ≠ 2) : chkC g r = false := by unfold chkC; rw [if_neg h1, if_neg h2]; simp
theorem inC_vld {g : G} {x : List R} (h : Gm.vld g = false) : Py.inC g x = false := by unfold Py.inC Py.okE; rw [Py.isPay_vld h]; rfl
end Go.Proofs.Ytpjnjidbdpfdcaa.Cr
