/- Properties of games in plain terms: the first pair that violates one, null players, symmetric players; nothing of the program. -/
import Derived.Test.YtodjapljoimkgaaGmM
namespace Go.Proofs.Ytodjapljoimkgaa.Pr
open Gm (G)
/-- The first b below n with f b = false. -/
def row (f : Nat → Bool) : Nat → Option Nat
  | 0 => none
  | n + 1 => match row f n with
    | some b => some b
    | none => if f n then none else some n
theorem row_none {f : Nat → Bool} : ∀ n, (∀ b, b < n → f b = true) → row f n = none
  | 0, _ => rfl
  | n + 1, h => by simp [row, row_none n (fun b hb => h b (by omega)), h n (by omega)]
theorem row_hit {f : Nat → Bool} {b : Nat} (hb : f b = false) (ha : ∀ c, c < b → f c = true) : ∀ n, b < n → row f n = some b
  | 0, h => absurd h (by omega)
  | n + 1, h => by
    by_cases e : b = n
    · subst e; simp [row, row_none b ha, hb]
    · simp [row, row_hit hb ha n (by omega)]
theorem row_all {f : Nat → Bool} : ∀ n, row f n = none → ∀ b, b < n → f b = true
  | 0, _, b, hb => absurd hb (by omega)
  | n + 1, h, b, hb => by
    rcases hr : row f n with _ | c
    · rw [row, hr] at h
      rcases hf : f n with _ | _
      · simp [hf] at h
      · by_cases e : b = n
        · subst e; exact hf
        · exact row_all n hr b (by omega)
    · rw [row, hr] at h; simp at h
theorem row_some {f : Nat → Bool} : ∀ n {b : Nat}, row f n = some b → b < n ∧ f b = false
  | 0, b, h => by simp [row] at h
  | n + 1, b, h => by
    rcases hr : row f n with _ | c
    · rw [row, hr] at h
      rcases hf : f n with _ | _
      · simp [hf] at h; subst h; exact ⟨by omega, hf⟩
      · simp [hf] at h
    · rw [row, hr] at h
      simp at h
      subst h
      have := row_some n hr
      exact ⟨by omega, this.2⟩
/-- The first pair, in lexicographic order, of numbers below n and m with f = false. -/
def first (f : Nat → Nat → Bool) (m : Nat) : Nat → Option (Nat × Nat)
  | 0 => none
  | a + 1 => match first f m a with
    | some p => some p
    | none => (row (f a) m).map fun b => (a, b)
theorem first_none {f : Nat → Nat → Bool} {m : Nat} : ∀ n, (∀ a, a < n → ∀ b, b < m → f a b = true) → first f m n = none
  | 0, _ => rfl
  | n + 1, h => by simp [first, first_none n (fun a ha => h a (by omega)), row_none m (h n (by omega))]
theorem first_hit {f : Nat → Nat → Bool} {m a b : Nat} (hb : b < m) (h : f a b = false) (h1 : ∀ c, c < a → ∀ d, d < m → f c d = true) (h2 : ∀ d, d < b → f a d = true) : ∀ n, a < n → first f m n = some (a, b)
  | 0, hn => absurd hn (by omega)
  | n + 1, hn => by
    by_cases e : a = n
    · subst e; simp [first, first_none a h1, row_hit h h2 m hb]
    · simp [first, first_hit hb h h1 h2 n (by omega)]
theorem first_all {f : Nat → Nat → Bool} {m : Nat} : ∀ n, first f m n = none → ∀ a, a < n → ∀ b, b < m → f a b = true
  | 0, _, a, ha => absurd ha (by omega)
  | n + 1, h, a, ha => by
    rcases hr : first f m n with _ | p
    · rw [first, hr] at h
      simp at h
      by_cases e : a = n
      · subst e; exact row_all m h
      · exact first_all n hr a (by omega)
    · rw [first, hr] at h; simp at h
theorem first_some {f : Nat → Nat → Bool} {m : Nat} : ∀ n {p : Nat × Nat}, first f m n = some p → p.1 < n ∧ p.2 < m ∧ f p.1 p.2 = false
  | 0, p, h => by simp [first] at h
  | n + 1, p, h => by
    rcases hr : first f m n with _ | q
    · rw [first, hr] at h
      simp at h
      obtain ⟨b, hb, rfl⟩ := h
      have := row_some m hb
      exact ⟨by simp, this.1, this.2⟩
    · rw [first, hr] at h
      simp at h
      subst h
      have := first_some n hr
      exact ⟨by omega, this.2⟩
def out : Option (Nat × Nat) → Int × Int × Bool
  | some p => ((p.1 : Int), (p.2 : Int), true)
  | none => (0, 0, false)
/-- What a search for a fault answers. -/
def flt (f : Nat → Nat → Bool) (m : Nat) : Int × Int × Bool := out (first f m m)
theorem flt_none {f : Nat → Nat → Bool} {m : Nat} (h : ∀ a, a < m → ∀ b, b < m → f a b = true) : flt f m = (0, 0, false) := by rw [flt, first_none m h]; rfl
theorem flt_hit {f : Nat → Nat → Bool} {m a b : Nat} (ha : a < m) (hb : b < m) (h : f a b = false) (h1 : ∀ c, c < a → ∀ d, d < m → f c d = true) (h2 : ∀ d, d < b → f a d = true) : flt f m = ((a : Int), (b : Int), true) := by
  rw [flt, first_hit hb h h1 h2 m ha]; rfl
theorem flt_yes {f : Nat → Nat → Bool} {m : Nat} {A B : Int} (h : flt f m = (A, B, true)) : ∃ a b : Nat, A = a ∧ B = b ∧ a < m ∧ b < m ∧ f a b = false := by
  rcases hr : first f m m with _ | p
  · rw [flt, hr, out] at h; simp at h
  · rw [flt, hr, out] at h
    simp at h
    have := first_some m hr
    exact ⟨p.1, p.2, h.1.symm, h.2.symm, this.1, this.2.1, this.2.2⟩
theorem flt_no {f : Nat → Nat → Bool} {m : Nat} {A B : Int} (h : flt f m = (A, B, false)) : A = 0 ∧ B = 0 ∧ ∀ a, a < m → ∀ b, b < m → f a b = true := by
  rcases hr : first f m m with _ | p
  · rw [flt, hr, out] at h
    simp at h
    exact ⟨h.1.symm, h.2.symm, first_all m hr⟩
  · rw [flt, hr, out] at h; simp at h
/-- Where the values of a union and of an overlap stand. -/
theorem uni_lt : ∀ n : Fin 6, ∀ a b : Fin 32, a.val < 2 ^ n.val → b.val < 2 ^ n.val → 0 ≤ Co.uni (a.val : Int) (b.val : Int) 5 ∧ (Co.uni (a.val : Int) (b.val : Int) 5).toNat < 2 ^ n.val := by decide +kernel
theorem ovl_lt : ∀ n : Fin 6, ∀ a b : Fin 32, a.val < 2 ^ n.val → b.val < 2 ^ n.val → 0 ≤ Co.ovl (a.val : Int) (b.val : Int) 5 ∧ (Co.ovl (a.val : Int) (b.val : Int) 5).toNat < 2 ^ n.val := by decide +kernel
theorem uni_at {g : G} (h : Gm.vld g = true) {a b : Nat} (ha : a < g.v.length) (hb : b < g.v.length) : ∃ u : Nat, Co.uni (a : Int) (b : Int) 5 = (u : Int) ∧ u < g.v.length := by
  have h5 := Gm.vld_n h; have hl := Gm.vld_len h; have hp := Gm.vld_pow h
  have := uni_lt ⟨g.n.toNat, by omega⟩ ⟨a, by omega⟩ ⟨b, by omega⟩ (by simp only; omega) (by simp only; omega)
  exact ⟨(Co.uni (a : Int) (b : Int) 5).toNat, by simp only at this; omega, by simp only at this; omega⟩
theorem ovl_at {g : G} (h : Gm.vld g = true) {a b : Nat} (ha : a < g.v.length) (hb : b < g.v.length) : ∃ u : Nat, Co.ovl (a : Int) (b : Int) 5 = (u : Int) ∧ u < g.v.length := by
  have h5 := Gm.vld_n h; have hl := Gm.vld_len h; have hp := Gm.vld_pow h
  have := ovl_lt ⟨g.n.toNat, by omega⟩ ⟨a, by omega⟩ ⟨b, by omega⟩ (by simp only; omega) (by simp only; omega)
  exact ⟨(Co.ovl (a : Int) (b : Int) 5).toNat, by simp only at this; omega, by simp only at this; omega⟩
/-- The three properties, of a pair. -/
def at' (g : G) (a : Nat) : Int := g.v.getD a 0
def okM (g : G) (a b : Nat) : Bool := !Co.sub (a : Int) (b : Int) 5 || decide (at' g a ≤ at' g b)
def okS (g : G) (a b : Nat) : Bool := !decide (Co.ovl (a : Int) (b : Int) 5 = 0) || decide (at' g a + at' g b ≤ at' g (Co.uni (a : Int) (b : Int) 5).toNat)
def okC (g : G) (a b : Nat) : Bool := decide (at' g a + at' g b ≤ at' g (Co.uni (a : Int) (b : Int) 5).toNat + at' g (Co.ovl (a : Int) (b : Int) 5).toNat)
def fault (f : G → Nat → Nat → Bool) (g : G) : Int × Int × Bool := if Gm.vld g then flt (f g) g.v.length else (0, 0, false)
theorem fault_yes {f : G → Nat → Nat → Bool} {g : G} (h : Gm.vld g = true) : fault f g = flt (f g) g.v.length := if_pos h
theorem fault_no {f : G → Nat → Nat → Bool} {g : G} (h : Gm.vld g = false) : fault f g = (0, 0, false) := by unfold fault; rw [h]; rfl
/-- The game is valid and has no fault. -/
def has (f : G → Nat → Nat → Bool) (g : G) : Bool := Gm.vld g && !(fault f g).2.2
theorem has_of {f : G → Nat → Nat → Bool} {g : G} {A B : Int} {bad v : Bool} (h : fault f g = (A, B, bad)) (hv : Gm.vld g = v) : has f g = (v && !bad) := by unfold has; rw [h, hv]
/-- A fault's pair. -/
theorem fault_pair {f : G → Nat → Nat → Bool} {g : G} {A B : Int} (h : fault f g = (A, B, true)) : Gm.vld g = true ∧ ∃ a b : Nat, A = a ∧ B = b ∧ a < g.v.length ∧ b < g.v.length ∧ f g a b = false := by
  rcases hv : Gm.vld g with _ | _
  · rw [fault_no hv] at h; simp at h
  · rw [fault_yes hv] at h
    exact ⟨rfl, flt_yes h⟩
theorem good_at {g : G} (h : Gm.vld g = true) {a : Nat} (ha : a < g.v.length) : Co.good (a : Int) = true := by
  have := Gm.vld_len h
  unfold Co.good
  rw [decide_eq_true_iff]
  omega
/-- A convex game is superadditive. -/
theorem convex_super {g : G} (h : has okC g = true) : has okS g = true := by
  rcases hv : Gm.vld g with _ | _
  · unfold has at h; rw [hv] at h; simp at h
  obtain ⟨A, B, bad, hf⟩ : ∃ A B bad, fault okC g = (A, B, bad) := ⟨_, _, _, rfl⟩
  rw [has_of hf hv] at h
  rcases bad with _ | _
  · rw [fault_yes hv] at hf
    have hA := (flt_no hf).2.2
    have hS : fault okS g = (0, 0, false) := by
      rw [fault_yes hv]
      refine flt_none fun a ha b hb => ?_
      have h2 := hA a ha b hb
      unfold okC at h2
      have h3 := of_decide_eq_true h2
      unfold okS
      by_cases h0 : Co.ovl (a : Int) (b : Int) 5 = 0
      · rw [h0] at h3
        have hz : at' g (0 : Int).toNat = 0 := (Gm.vld_parts hv).2.2
        rw [hz] at h3
        rw [decide_eq_true h0, Bool.not_true, Bool.false_or, decide_eq_true_iff]
        omega
      · rw [decide_eq_false h0]; rfl
    rw [has_of hS hv]; rfl
  · simp at h
/-- Player k adds nothing. -/
def nulAt (g : G) (k s : Nat) : Bool := Co.has (s : Int) k || decide (at' g s = at' g (s + 2 ^ k))
def nul (g : G) (k : Nat) : Bool := (List.range g.v.length).all (nulAt g k)
theorem nul_no {g : G} {k s : Nat} (hs : s < g.v.length) (h : nulAt g k s = false) : nul g k = false := by
  rw [nul, List.all_eq_false]
  exact ⟨s, by simpa using hs, by simp [h]⟩
theorem nul_yes {g : G} {k : Nat} (h : ∀ s, s < g.v.length → nulAt g k s = true) : nul g k = true := by
  rw [nul, List.all_eq_true]
  intro s hs
  exact h s (by simpa using hs)
/-- .. of the first s coalitions. -/
def nulTo (g : G) (k : Nat) : Nat → Bool
  | 0 => true
  | s + 1 => nulTo g k s && nulAt g k s
theorem nulTo_all {g : G} {k : Nat} : ∀ n, nulTo g k n = (List.range n).all (nulAt g k)
  | 0 => rfl
  | n + 1 => by rw [nulTo, nulTo_all n, List.range_succ, List.all_append]; simp
def nulls (g : G) : Nat → List Int
  | 0 => []
  | k + 1 => if nul g k then nulls g k ++ [(k : Int)] else nulls g k
theorem nulls_yes {g : G} {k : Nat} (h : nul g k = true) : nulls g (k + 1) = nulls g k ++ [(k : Int)] := by simp [nulls, h]
theorem nulls_no {g : G} {k : Nat} (h : nul g k = false) : nulls g (k + 1) = nulls g k := by simp [nulls, h]
theorem nulls_len (g : G) : ∀ k, (nulls g k).length ≤ k
  | 0 => by simp [nulls]
  | k + 1 => by have := nulls_len g k; rw [nulls]; split <;> simp <;> omega
def nullR (g : G) : List Int := if Gm.vld g then nulls g g.n.toNat else []
theorem nullR_yes {g : G} (h : Gm.vld g = true) : nullR g = nulls g g.n.toNat := if_pos h
theorem nullR_no {g : G} (h : Gm.vld g = false) : nullR g = [] := by unfold nullR; rw [h]; rfl
/-- The coalition with one player more. -/
theorem more_lt : ∀ n : Fin 6, ∀ s : Fin 32, ∀ k : Fin 5, s.val < 2 ^ n.val → k.val < n.val → if Co.has (s.val : Int) k.val then Co.uni (s.val : Int) (2 ^ k.val) 5 = s.val else Co.uni (s.val : Int) (2 ^ k.val) 5 = s.val + 2 ^ k.val ∧ s.val + 2 ^ k.val < 2 ^ n.val := by decide +kernel
theorem more_yes {g : G} (h : Gm.vld g = true) {s k : Nat} (hs : s < g.v.length) (hk : (k : Int) < g.n) (hh : Co.has (s : Int) k = true) : Co.uni (s : Int) (2 ^ k) 5 = s := by
  have h5 := Gm.vld_n h; have hl := Gm.vld_len h; have hp := Gm.vld_pow h
  have := more_lt ⟨g.n.toNat, by omega⟩ ⟨s, by omega⟩ ⟨k, by omega⟩ (by simp only; omega) (by simp only; omega)
  simp only [hh, if_true] at this
  exact this
theorem more_no {g : G} (h : Gm.vld g = true) {s k : Nat} (hs : s < g.v.length) (hk : (k : Int) < g.n) (hh : Co.has (s : Int) k = false) : Co.uni (s : Int) (2 ^ k) 5 = ((s + 2 ^ k : Nat) : Int) ∧ s + 2 ^ k < g.v.length := by
  have h5 := Gm.vld_n h; have hl := Gm.vld_len h; have hp := Gm.vld_pow h
  have := more_lt ⟨g.n.toNat, by omega⟩ ⟨s, by omega⟩ ⟨k, by omega⟩ (by simp only; omega) (by simp only; omega)
  simp only [hh, Bool.false_eq_true, if_false] at this
  rw [hp]
  refine ⟨?_, this.2⟩
  rw [this.1]
  simp
/-- Players i and j are treated alike. -/
def symAt (g : G) (i j s : Nat) : Bool := Co.has (s : Int) i || (Co.has (s : Int) j || decide (at' g (s + 2 ^ i) = at' g (s + 2 ^ j)))
def sym (g : G) (i j : Nat) : Bool := (List.range g.v.length).all (symAt g i j)
theorem sym_no {g : G} {i j s : Nat} (hs : s < g.v.length) (h : symAt g i j s = false) : sym g i j = false := by
  rw [sym, List.all_eq_false]
  exact ⟨s, by simpa using hs, by simp [h]⟩
theorem sym_yes {g : G} {i j : Nat} (h : ∀ s, s < g.v.length → symAt g i j s = true) : sym g i j = true := by
  rw [sym, List.all_eq_true]
  intro s hs
  exact h s (by simpa using hs)
def inG (g : G) (i : Int) : Bool := decide (0 ≤ i ∧ i < g.n)
def symR (g : G) (i j : Int) : Bool := Gm.vld g && (inG g i && (inG g j && sym g i.toNat j.toNat))
end Go.Proofs.Ytodjapljoimkgaa.Pr
