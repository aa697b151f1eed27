/- Games in plain terms: which are valid, values, sums, scaled and restricted games; nothing of the program. -/
import Derived.Test.YtpjnjidbdpfdcaaCoM2
import Derived.Test.YtpjnjidbdpfdcaaGB
namespace Go.Proofs.Ytpjnjidbdpfdcaa.Gm
structure G where
 n : Int
 v : List Int
def G0 : G := ⟨0, []⟩
def shape (g : G) : Bool := decide (1 ≤ g.n ∧ g.n ≤ 5) && decide (g.v.length = 2 ^ g.n.toNat)
def zero0 (g : G) : Bool := decide (g.v.getD 0 0 = 0)
def vld (g : G) : Bool := shape g && (within 500 g.v && zero0 g)
theorem shape_parts {g : G} (h : shape g = true) : (1 ≤ g.n ∧ g.n ≤ 5) ∧ g.v.length = 2 ^ g.n.toNat := by
 unfold shape at h
 simp only [Bool.and_eq_true, decide_eq_true_iff] at h
 exact h
theorem pow_bd {n : Int} (h : 1 ≤ n ∧ n ≤ 5) : 2 ≤ 2 ^ n.toNat ∧ 2 ^ n.toNat ≤ 32 := by
 have h2 : n = 1 ∨ n = 2 ∨ n = 3 ∨ n = 4 ∨ n = 5 := by omega
 rcases h2 with rfl | rfl | rfl | rfl | rfl <;> decide
theorem shape_len {g : G} (h : shape g = true) : 2 ≤ g.v.length ∧ g.v.length ≤ 32 := by
 have h2 := shape_parts h
 rw [h2.2]
 exact pow_bd h2.1
theorem vld_parts {g : G} (h : vld g = true) : shape g = true ∧ within 500 g.v = true ∧ g.v.getD 0 0 = 0 := by
 unfold vld at h
 simp only [Bool.and_eq_true] at h
 exact ⟨h.1, h.2.1, of_decide_eq_true h.2.2⟩
theorem vld_len {g : G} (h : vld g = true) : 2 ≤ g.v.length ∧ g.v.length ≤ 32 := shape_len (vld_parts h).1
theorem vld_n {g : G} (h : vld g = true) : 1 ≤ g.n ∧ g.n ≤ 5 := (shape_parts (vld_parts h).1).1
theorem vld_pow {g : G} (h : vld g = true) : g.v.length = 2 ^ g.n.toNat := (shape_parts (vld_parts h).1).2
theorem vld_at {g : G} (h : vld g = true) {k : Nat} (hk : k < g.v.length) : -500 ≤ g.v.getD k 0 ∧ g.v.getD k 0 ≤ 500 := within_at (vld_parts h).2.1 hk
theorem vld_shape {g : G} (h : shape g = false) : vld g = false := by unfold vld; rw [h]; rfl
theorem vld_within {g : G} (h : within 500 g.v = false) : vld g = false := by unfold vld; rw [h]; simp
theorem vld_zero {g : G} (h : zero0 g = false) : vld g = false := by unfold vld; rw [h]; simp
theorem vld_last {g : G} (h1 : shape g = true) (h2 : within 500 g.v = true) : vld g = zero0 g := by unfold vld; rw [h1, h2]; rfl
def val (g : G) (s : Int) : Int := if 0 ≤ s ∧ s < g.v.length then g.v.getD s.toNat 0 else 0
theorem val_in {g : G} {k : Nat} (h : k < g.v.length) : val g (k : Int) = g.v.getD k 0 := by unfold val; rw [if_pos ⟨by omega, by omega⟩]; simp
theorem val_out {g : G} {s : Int} (h : ¬ (0 ≤ s ∧ s < g.v.length)) : val g s = 0 := if_neg h
def grand (g : G) : Int := if vld g then g.v.getD (g.v.length - 1) 0 else 0
theorem grand_yes {g : G} (h : vld g = true) : grand g = g.v.getD (g.v.length - 1) 0 := if_pos h
theorem grand_no {g : G} (h : vld g = false) : grand g = 0 := by unfold grand; rw [h]; rfl
def eqG (a b : G) : Bool := decide (a.n = b.n) && decide (a.v = b.v)
def keep (g : G) : G × Bool := if vld g then (g, true) else (G0, false)
theorem keep_yes {g : G} (h : vld g = true) : keep g = (g, true) := if_pos h
theorem keep_no {g : G} (h : vld g = false) : keep g = (G0, false) := by unfold keep; rw [h]; rfl
def mk (n : Int) (f : Nat → Int) (m : Nat) : G := ⟨n, (List.range m).map f⟩
theorem mk_len (n : Int) (f : Nat → Int) (m : Nat) : (mk n f m).v.length = m := by simp [mk]
theorem mk_at (n : Int) (f : Nat → Int) {m k : Nat} (h : k < m) : (mk n f m).v.getD k 0 = f k := by simp [mk, List.getD_eq_getElem?_getD, h]
theorem mk_more (n : Int) (f : Nat → Int) (m : Nat) : (mk n f (m + 1)).v = (mk n f m).v ++ [f m] := by simp [mk, List.range_succ]
def part (f : Nat → Int) (l : List Int) (k : Nat) : List Int := (List.range k).map f ++ l.drop k
theorem part_zero (f : Nat → Int) (l : List Int) : part f l 0 = l := by simp [part]
theorem part_len (f : Nat → Int) {l : List Int} {k : Nat} (h : k ≤ l.length) : (part f l k).length = l.length := by simp [part]; omega
theorem part_all (n : Int) (f : Nat → Int) (l : List Int) : part f l l.length = (mk n f l.length).v := by simp [part, mk]
theorem part_set (f : Nat → Int) {l : List Int} {k : Nat} (h : k < l.length) : (part f l k).set k (f k) = part f l (k + 1) := by
 unfold part
 have hl : ((List.range k).map f).length = k := by simp
 rw [List.set_append_right _ _ (by omega), hl, Nat.sub_self, List.range_succ, List.map_append, List.drop_eq_getElem_cons h, List.set_cons_zero, List.append_assoc]
 rfl
def addAt (a b : G) (k : Nat) : Int := a.v.getD k 0 + b.v.getD k 0
def addOk (a b : G) : Bool := vld a && (vld b && decide (a.n = b.n))
def add (a b : G) : G × Bool := if addOk a b then keep (mk a.n (addAt a b) a.v.length) else (G0, false)
theorem add_yes {a b : G} (h : addOk a b = true) : add a b = keep (mk a.n (addAt a b) a.v.length) := if_pos h
theorem add_no {a b : G} (h : addOk a b = false) : add a b = (G0, false) := by unfold add; rw [h]; rfl
theorem addOk_parts {a b : G} (h : addOk a b = true) : vld a = true ∧ vld b = true ∧ a.n = b.n := by
 unfold addOk at h
 simp only [Bool.and_eq_true, decide_eq_true_iff] at h
 exact h
theorem add_bd {a b : G} (ha : vld a = true) (hb : vld b = true) {k : Nat} (h1 : k < a.v.length) (h2 : k < b.v.length) : -1000 ≤ addAt a b k ∧ addAt a b k ≤ 1000 := by
 have := vld_at ha h1; have := vld_at hb h2; unfold addAt; omega
def tot (list : List Int) (s : Int) : Nat → Int
 | 0 => 0
 | j + 1 => tot list s j + if Co.has s j then list.getD j 0 else 0
theorem tot_yes {list : List Int} {s : Int} {j : Nat} (h : Co.has s j = true) : tot list s (j + 1) = tot list s j + list.getD j 0 := by simp [tot, h]
theorem tot_no {list : List Int} {s : Int} {j : Nat} (h : Co.has s j = false) : tot list s (j + 1) = tot list s j := by simp [tot, h]
theorem tot_bd {list : List Int} (hl : within 500 list = true) (s : Int) : ∀ j, j ≤ list.length → -(500 * (j : Int)) ≤ tot list s j ∧ tot list s j ≤ 500 * j
 | 0, _ => by simp [tot]
 | j + 1, h => by
  have := tot_bd hl s j (by omega)
  have := within_at hl (show j < list.length by omega)
  unfold tot
  split <;> omega
def sclAt (g : G) (k : Int) (list : List Int) (s : Nat) : Int := k * g.v.getD s 0 + tot list s list.length
def sclOk (g : G) (k : Int) (list : List Int) : Bool := vld g && (decide (-500 ≤ k ∧ k ≤ 500) && (decide ((list.length : Int) = g.n) && within 500 list))
def scl (g : G) (k : Int) (list : List Int) : G × Bool := if sclOk g k list then keep (mk g.n (sclAt g k list) g.v.length) else (G0, false)
theorem scl_yes {g : G} {k : Int} {list : List Int} (h : sclOk g k list = true) : scl g k list = keep (mk g.n (sclAt g k list) g.v.length) := if_pos h
theorem scl_no {g : G} {k : Int} {list : List Int} (h : sclOk g k list = false) : scl g k list = (G0, false) := by unfold scl; rw [h]; rfl
theorem sclOk_parts {g : G} {k : Int} {list : List Int} (h : sclOk g k list = true) : vld g = true ∧ (-500 ≤ k ∧ k ≤ 500) ∧ (list.length : Int) = g.n ∧ within 500 list = true := by
 unfold sclOk at h
 simp only [Bool.and_eq_true, decide_eq_true_iff] at h
 exact h
theorem mul_bd {k x : Int} (hk : -500 ≤ k ∧ k ≤ 500) (hx : -500 ≤ x ∧ x ≤ 500) : -250000 ≤ k * x ∧ k * x ≤ 250000 := by
 have h1 : (500 - k) * (500 - x) ≥ 0 := Int.mul_nonneg (by omega) (by omega)
 have h2 : (500 + k) * (500 + x) ≥ 0 := Int.mul_nonneg (by omega) (by omega)
 have h3 : (500 - k) * (500 + x) ≥ 0 := Int.mul_nonneg (by omega) (by omega)
 have h4 : (500 + k) * (500 - x) ≥ 0 := Int.mul_nonneg (by omega) (by omega)
 have e1 : (500 - k) * (500 - x) = 250000 - 500 * x - 500 * k + k * x := by rw [Int.sub_mul, Int.mul_sub, Int.mul_sub]; omega
 have e2 : (500 + k) * (500 + x) = 250000 + 500 * x + 500 * k + k * x := by rw [Int.add_mul, Int.mul_add, Int.mul_add]; omega
 have e3 : (500 - k) * (500 + x) = 250000 + 500 * x - 500 * k - k * x := by rw [Int.sub_mul, Int.mul_add, Int.mul_add]; omega
 have e4 : (500 + k) * (500 - x) = 250000 - 500 * x + 500 * k - k * x := by rw [Int.add_mul, Int.mul_sub, Int.mul_sub]; omega
 omega
def totM (list : List Int) : List Int → Int
 | [] => 0
 | x :: r => list.getD x.toNat 0 + totM list r
theorem totM_snoc (list : List Int) : ∀ (m : List Int) (x : Int), totM list (m ++ [x]) = totM list m + list.getD x.toNat 0
 | [], x => by simp [totM]
 | y :: m, x => by simp [totM, totM_snoc list m x]; omega
theorem totM_mem (list : List Int) (s : Int) : ∀ k, totM list (Co.mem s k) = tot list s k
 | 0 => rfl
 | k + 1 => by
  rcases hh : Co.has s k with _ | _
  ·
   rw [Co.mem_no hh, tot_no hh, totM_mem list s k]
  ·
   rw [Co.mem_yes hh, tot_yes hh, totM_snoc, totM_mem list s k]
   simp
theorem totM_take (list : List Int) (m : List Int) {j : Nat} (h : j < m.length) : totM list (m.take (j + 1)) = totM list (m.take j) + list.getD (m.getD j 0).toNat 0 := by
 rw [List.take_add_one, List.getElem?_eq_getElem h, Option.toList_some, totM_snoc, List.getD_eq_getElem?_getD (l := m), List.getElem?_eq_getElem h]
 rfl
theorem totM_bd {list : List Int} (hl : within 500 list = true) : ∀ (m : List Int), (∀ x ∈ m, x.toNat < list.length) → -(500 * (m.length : Int)) ≤ totM list m ∧ totM list m ≤ 500 * m.length
 | [], _ => by simp [totM]
 | x :: m, h => by
  have := totM_bd hl m fun y hy => h y (List.mem_cons_of_mem _ hy)
  have := within_at hl (h x (by simp))
  simp only [totM, List.length_cons]
  omega
theorem has_lt : ∀ n : Fin 6, ∀ s : Fin 32, s.val < 2 ^ n.val → ∀ k : Fin 5, n.val ≤ k.val → Co.has (s.val : Int) k.val = false := by decide +kernel
theorem has_out {n s k : Nat} (hn : n ≤ 5) (hs : s < 2 ^ n) (hk : n ≤ k) (hk5 : k < 5) : Co.has (s : Int) k = false := by
 have h32 : s < 32 := Nat.lt_of_lt_of_le hs (Nat.pow_le_pow_right (by omega) hn)
 exact has_lt ⟨n, by omega⟩ ⟨s, h32⟩ hs ⟨k, hk5⟩ hk
theorem mem_stop {n s : Nat} (hn : n ≤ 5) (hs : s < 2 ^ n) : ∀ d, n + d ≤ 5 → Co.mem (s : Int) (n + d) = Co.mem (s : Int) n
 | 0, _ => rfl
 | d + 1, h => by
  rw [show n + (d + 1) = (n + d) + 1 from rfl, Co.mem_no (has_out hn hs (by omega) (by omega))]
  exact mem_stop hn hs d (by omega)
theorem mem_of {n s : Nat} (hn : n ≤ 5) (hs : s < 2 ^ n) : Co.mem (s : Int) 5 = Co.mem (s : Int) n := by
 have := mem_stop hn hs (5 - n) (by omega)
 rwa [show n + (5 - n) = 5 by omega] at this
theorem scl_mem {g : G} {k : Int} {list : List Int} {s : Nat} (hn : list.length ≤ 5) (hs : s < 2 ^ list.length) : sclAt g k list s = k * g.v.getD s 0 + totM list (Co.mem (s : Int) 5) := by
 unfold sclAt
 rw [mem_of hn hs, totM_mem]
def wide (m : List Int) (t : Int) : Nat → Int
 | 0 => 0
 | j + 1 => wide m t j + if Co.has t j then 2 ^ (m.getD j 0).toNat else 0
theorem wide_yes {m : List Int} {t : Int} {j : Nat} (h : Co.has t j = true) : wide m t (j + 1) = wide m t j + 2 ^ (m.getD j 0).toNat := by simp [wide, h]
theorem wide_no {m : List Int} {t : Int} {j : Nat} (h : Co.has t j = false) : wide m t (j + 1) = wide m t j := by simp [wide, h]
def wideM (m : List Int) : List Int → Int
 | [] => 0
 | x :: r => Co.uni (2 ^ (m.getD x.toNat 0).toNat) (wideM m r) 5
def wideT (m q : List Int) (j : Nat) : Int := wideM m (q.take j).reverse
theorem wideT_zero (m q : List Int) : wideT m q 0 = 0 := by simp [wideT, wideM]
theorem wide_all : ∀ s t : Fin 32, t.val < 2 ^ (Co.mem (s.val : Int) 5).length →
  wideT (Co.mem (s.val : Int) 5) (Co.mem (t.val : Int) 5) (Co.mem (t.val : Int) 5).length = wide (Co.mem (s.val : Int) 5) (t.val : Int) (Co.mem (s.val : Int) 5).length := by decide +kernel
theorem wide_step : ∀ s t : Fin 32, t.val < 2 ^ (Co.mem (s.val : Int) 5).length → ∀ j : Fin 5, j.val < (Co.mem (t.val : Int) 5).length →
  0 ≤ (Co.mem (t.val : Int) 5).getD j.val 0 ∧ ((Co.mem (t.val : Int) 5).getD j.val 0).toNat < (Co.mem (s.val : Int) 5).length ∧
  0 ≤ (Co.mem (s.val : Int) 5).getD ((Co.mem (t.val : Int) 5).getD j.val 0).toNat 0 ∧ (Co.mem (s.val : Int) 5).getD ((Co.mem (t.val : Int) 5).getD j.val 0).toNat 0 < 5 ∧
  Co.good (wideT (Co.mem (s.val : Int) 5) (Co.mem (t.val : Int) 5) j.val) = true ∧
  Co.uni (wideT (Co.mem (s.val : Int) 5) (Co.mem (t.val : Int) 5) j.val) (2 ^ ((Co.mem (s.val : Int) 5).getD ((Co.mem (t.val : Int) 5).getD j.val 0).toNat 0).toNat) 5 = wideT (Co.mem (s.val : Int) 5) (Co.mem (t.val : Int) 5) (j.val + 1) := by decide +kernel
theorem wide_bd : ∀ s t : Fin 32, ∀ j : Fin 6, j.val ≤ (Co.mem (s.val : Int) 5).length → 0 ≤ wide (Co.mem (s.val : Int) 5) (t.val : Int) j.val ∧ wide (Co.mem (s.val : Int) 5) (t.val : Int) j.val ≤ s.val := by decide +kernel
theorem mem_pos : ∀ s : Fin 32, s.val ≠ 0 → 1 ≤ (Co.mem (s.val : Int) 5).length ∧ (Co.mem (s.val : Int) 5).length ≤ 5 := by decide +kernel
theorem wide_zero (m : List Int) : ∀ j, wide m 0 j = 0
 | 0 => rfl
 | j + 1 => by
  have h : Co.has 0 j = false := by unfold Co.has; rw [decide_eq_false_iff_not]; simp
  rw [wide_no h, wide_zero m j]
def resOk (g : G) (s : Int) : Bool := vld g && decide (1 ≤ s ∧ s < g.v.length)
def resAt (g : G) (s : Int) (t : Nat) : Int := g.v.getD (wide (Co.mem s 5) (t : Int) (Co.mem s 5).length).toNat 0
def resG (g : G) (s : Int) : G := mk ((Co.mem s 5).length : Nat) (resAt g s) (2 ^ (Co.mem s 5).length)
def res (g : G) (s : Int) : G × Bool := if resOk g s then (resG g s, true) else (G0, false)
theorem res_yes {g : G} {s : Int} (h : resOk g s = true) : res g s = (resG g s, true) := if_pos h
theorem res_no {g : G} {s : Int} (h : resOk g s = false) : res g s = (G0, false) := by unfold res; rw [h]; rfl
theorem resOk_parts {g : G} {s : Int} (h : resOk g s = true) : vld g = true ∧ 1 ≤ s ∧ s < g.v.length := by
 unfold resOk at h
 simp only [Bool.and_eq_true, decide_eq_true_iff] at h
 exact h
theorem wide_in {g : G} {s : Int} (h : resOk g s = true) {t : Nat} (ht : t < 2 ^ (Co.mem s 5).length) : 0 ≤ wide (Co.mem s 5) (t : Int) (Co.mem s 5).length ∧ wide (Co.mem s 5) (t : Int) (Co.mem s 5).length < g.v.length := by
 obtain ⟨hv, h1, h2⟩ := resOk_parts h
 have hl := vld_len hv
 have hs : s = ((⟨s.toNat, by omega⟩ : Fin 32).val : Int) := by show s = ((s.toNat : Nat) : Int); omega
 have hml : (Co.mem s 5).length ≤ 5 := Co.mem_len s 5
 have ht32 : t < 32 := Nat.lt_of_lt_of_le ht (Nat.pow_le_pow_right (by omega) hml)
 have := wide_bd ⟨s.toNat, by omega⟩ ⟨t, ht32⟩ ⟨(Co.mem s 5).length, by omega⟩ (by rw [← hs]; exact Nat.le_refl _)
 rw [← hs] at this
 simp only at this
 omega
theorem res_vld {g : G} {s : Int} (h : resOk g s = true) : vld (resG g s) = true := by
 obtain ⟨hv, h1, h2⟩ := resOk_parts h
 have hl := vld_len hv
 have hs : s = ((⟨s.toNat, by omega⟩ : Fin 32).val : Int) := by show s = ((s.toNat : Nat) : Int); omega
 have hp := mem_pos ⟨s.toNat, by omega⟩ (by simp only; omega)
 rw [← hs] at hp
 have hpow : 0 < 2 ^ (Co.mem s 5).length := Nat.pow_pos (by omega)
 unfold vld shape within zero0
 simp only [Bool.and_eq_true, decide_eq_true_iff, List.all_eq_true]
 refine ⟨⟨⟨?_, ?_⟩, ?_⟩, ?_, ?_⟩
 ·
  show (1 : Int) ≤ ((Co.mem s 5).length : Nat); omega
 ·
  show (((Co.mem s 5).length : Nat) : Int) ≤ 5; omega
 ·
  rw [show (resG g s).v.length = 2 ^ (Co.mem s 5).length from mk_len _ _ _]
  show _ = 2 ^ (((Co.mem s 5).length : Nat) : Int).toNat
  simp
 ·
  intro x hx
  obtain ⟨t, ht, rfl⟩ := List.getElem_of_mem hx
  have ht2 : t < 2 ^ (Co.mem s 5).length := by rw [← mk_len ((Co.mem s 5).length : Nat) (resAt g s) (2 ^ (Co.mem s 5).length)]; exact ht
  have e : (resG g s).v[t] = resAt g s t := by simp [resG, mk]
  rw [e]
  have hw := wide_in h ht2
  exact vld_at hv (by omega)
 ·
  rw [show (resG g s).v.getD 0 0 = resAt g s 0 from mk_at _ _ hpow]
  unfold resAt
  rw [show ((0 : Nat) : Int) = 0 from rfl, wide_zero]
  exact (vld_parts hv).2.2
end Go.Proofs.Ytpjnjidbdpfdcaa.Gm
