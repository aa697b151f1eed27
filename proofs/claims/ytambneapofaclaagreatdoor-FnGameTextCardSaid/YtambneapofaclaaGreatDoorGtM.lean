/- Texts of games in plain terms: what is written, what is read; nothing of the program. -/
import Derived.Test.YtambneapofaclaaGreatDoorGmM
import Derived.Test.YtambneapofaclaaGreatDoorDec
import Derived.Test.YtambneapofaclaaGreatDoorSplitM
import Derived.Lib.ItoaLen
namespace Go.Proofs.YtambneapofaclaaGreatDoor.Gt
open Go
open Gm (G G0)
def num (n : Int) : ByteArray := ⟨(Lib.itoa n).toArray⟩
def sp : ByteArray := ⟨#[32]⟩
def nl : ByteArray := ⟨#[10]⟩
/-- The first word of a text. -/
def pl : ByteArray := ⟨#[112, 108, 97, 121, 101, 114, 115]⟩
/-- A line of a word and a number; with its newline. -/
def bare (a : ByteArray) (n : Int) : ByteArray := (a ++ sp) ++ num n
def lineOf (a : ByteArray) (n : Int) : ByteArray := bare a n ++ nl
/-- The first line, and those of the coalitions from 1 to k - 1. -/
def body (g : G) : Nat → ByteArray
  | 0 => lineOf pl g.n
  | k + 1 => if g.v.getD k 0 = 0 then body g k else body g k ++ lineOf (Co.text k) (g.v.getD k 0)
def text (g : G) : ByteArray := if Gm.vld g then body g g.v.length else ⟨#[]⟩
theorem text_yes {g : G} (h : Gm.vld g = true) : text g = body g g.v.length := if_pos h
theorem text_no {g : G} (h : Gm.vld g = false) : text g = ⟨#[]⟩ := by unfold text; rw [h]; rfl
theorem body_skip {g : G} {k : Nat} (h : g.v.getD k 0 = 0) : body g (k + 1) = body g k := if_pos h
theorem body_more {g : G} {k : Nat} (h : g.v.getD k 0 ≠ 0) : body g (k + 1) = body g k ++ lineOf (Co.text k) (g.v.getD k 0) := if_neg h
theorem body_one {g : G} (h : Gm.vld g = true) : body g 1 = lineOf pl g.n := body_skip (Gm.vld_parts h).2.2
/-- Sizes. -/
theorem num_size (n : Int) (h : -999999999999 ≤ n ∧ n ≤ 999999999999) : (num n).size ≤ 13 := by
  show (Lib.itoa n).toArray.size ≤ 13
  have := Dec.itoa_len13 n h.1 h.2
  simpa using this
theorem text_size (s : Int) : (Co.text s).size ≤ 5 := by
  rcases hg : Co.good s with _ | _
  · rw [Co.text_bad hg]; decide
  · obtain ⟨n, rfl⟩ := Co.good_fin hg
    exact Co.text_size' n
theorem line_size (a : ByteArray) (n : Int) : (lineOf a n).size = a.size + 1 + (num n).size + 1 := by
  unfold lineOf bare
  simp only [ByteArray.size_append]
  rfl
theorem body_size {g : G} (h : Gm.vld g = true) : ∀ k, k ≤ g.v.length → (body g k).size ≤ 30 + 20 * k
  | 0, _ => by
    have hn := Gm.vld_n h
    have h1 := num_size g.n (by omega)
    have h2 := line_size pl g.n
    have h3 : pl.size = 7 := rfl
    show (lineOf pl g.n).size ≤ _
    omega
  | k + 1, hk => by
    have ih := body_size h k (by omega)
    by_cases e : g.v.getD k 0 = 0
    · rw [body_skip e]; omega
    · rw [body_more e, ByteArray.size_append, line_size]
      have h1 := Gm.vld_at h (k := k) (by omega)
      have h2 := num_size (g.v.getD k 0) (by omega)
      have h3 := text_size (k : Int)
      omega
/-- No blank and no newline in a word or a number. -/
theorem itoa_free (n : Int) (c : UInt8) (h : c = 32 ∨ c = 10) : c ∉ Lib.itoa n := by
  have key : ∀ u : Nat, c ∉ Lib.decDigits u := fun u hm => by
    have := Dec.digits_digit u c hm
    rcases h with rfl | rfl <;> simp at this
  intro hm
  rcases Int.lt_trichotomy n 0 with h0 | h0 | h0
  · rw [Dec.itoa_neg h0] at hm
    rcases List.mem_cons.1 hm with e | e
    · rcases h with rfl | rfl <;> simp at e
    · exact key _ e
  · rw [h0, Dec.itoa_zero] at hm
    rcases h with rfl | rfl <;> simp at hm
  · rw [Dec.itoa_pos h0] at hm
    exact key _ hm
theorem text_free' : ∀ n : Fin 32, (32 : UInt8) ∉ (Co.text (n.val : Int)).data.toList ∧ (10 : UInt8) ∉ (Co.text (n.val : Int)).data.toList := by decide +kernel
theorem text_free (s : Int) (c : UInt8) (h : c = 32 ∨ c = 10) : c ∉ (Co.text s).data.toList := by
  rcases hg : Co.good s with _ | _
  · rw [Co.text_bad hg]; simp
  · obtain ⟨n, rfl⟩ := Co.good_fin hg
    rcases h with rfl | rfl
    · exact (text_free' n).1
    · exact (text_free' n).2
theorem pl_free (c : UInt8) (h : c = 32 ∨ c = 10) : c ∉ pl.data.toList := by rcases h with rfl | rfl <;> decide
theorem bare_data (a : ByteArray) (n : Int) : (bare a n).data.toList = a.data.toList ++ 32 :: Lib.itoa n := by
  unfold bare num sp
  simp
theorem line_data (a : ByteArray) (n : Int) : (lineOf a n).data.toList = (bare a n).data.toList ++ [10] := by
  unfold lineOf nl
  simp
theorem bare_free (a : ByteArray) (n : Int) (h : (10 : UInt8) ∉ a.data.toList) : (10 : UInt8) ∉ (bare a n).data.toList := by
  rw [bare_data]
  intro hm
  rcases List.mem_append.1 hm with e | e
  · exact h e
  · rcases List.mem_cons.1 e with e | e
    · simp at e
    · exact itoa_free n 10 (.inr rfl) e
theorem bytes_ext {a b : ByteArray} (h : a.data.toList = b.data.toList) : a = b := ByteArray.ext (Array.toList_inj.1 h)
/-- The first blank of a text parts it in one way. -/
theorem first_blank {c : UInt8} : ∀ {a b x y : List UInt8}, c ∉ a → c ∉ b → a ++ c :: x = b ++ c :: y → a = b ∧ x = y
  | [], [], x, y, _, _, h => ⟨rfl, by injection h⟩
  | [], d :: b, x, y, _, hb, h => by
    injection h with h1 _
    exact absurd (List.mem_cons.2 (.inl h1)) hb
  | d :: a, [], x, y, ha, _, h => by
    injection h with h1 _
    exact absurd (List.mem_cons.2 (.inl h1.symm)) ha
  | d :: a, e :: b, x, y, ha, hb, h => by
    injection h with h1 h2
    obtain ⟨r1, r2⟩ := first_blank (fun m => ha (List.mem_cons.2 (.inr m))) (fun m => hb (List.mem_cons.2 (.inr m))) h2
    exact ⟨by rw [h1, r1], r2⟩
theorem bare_inj {a b : ByteArray} {n m : Int} (ha : (32 : UInt8) ∉ a.data.toList) (hb : (32 : UInt8) ∉ b.data.toList) (h : bare a n = bare b m) : a = b ∧ n = m := by
  have h1 : (bare a n).data.toList = (bare b m).data.toList := by rw [h]
  rw [bare_data, bare_data] at h1
  obtain ⟨r1, r2⟩ := first_blank ha hb h1
  exact ⟨bytes_ext r1, Dec.itoa_inj r2⟩
/-- What a first line says; none where it says nothing. -/
def FirstR (l : ByteArray) (r : Option Int) : Prop := (∃ n : Int, 1 ≤ n ∧ n ≤ 5 ∧ l = bare pl n ∧ r = some n) ∨ ((∀ n : Int, 1 ≤ n → n ≤ 5 → l ≠ bare pl n) ∧ r = none)
theorem first_some (l : ByteArray) : ∃ r, FirstR l r := by
  by_cases h : ∃ n : Int, 1 ≤ n ∧ n ≤ 5 ∧ l = bare pl n
  · obtain ⟨n, h1, h2, h3⟩ := h
    exact ⟨some n, .inl ⟨n, h1, h2, h3, rfl⟩⟩
  · exact ⟨none, .inr ⟨fun n h1 h2 h3 => h ⟨n, h1, h2, h3⟩, rfl⟩⟩
theorem first_one {l : ByteArray} {r r' : Option Int} (h : FirstR l r) (h' : FirstR l r') : r = r' := by
  rcases h with ⟨n, h1, h2, h3, rfl⟩ | ⟨h1, rfl⟩ <;> rcases h' with ⟨m, k1, k2, k3, rfl⟩ | ⟨k1, rfl⟩
  · rw [(bare_inj (pl_free 32 (.inl rfl)) (pl_free 32 (.inl rfl)) (h3.symm.trans k3)).2]
  · exact absurd h3 (k1 n h1 h2)
  · exact absurd k3 (h1 m k1 k2)
  · rfl
/-- What another line says: a coalition and a value. -/
def saysB (s : Nat) (v : Int) : Prop := s < 32 ∧ v ≠ 0 ∧ -500 ≤ v ∧ v ≤ 500
def LineR (l : ByteArray) (r : Option (Nat × Int)) : Prop := (∃ (s : Nat) (v : Int), saysB s v ∧ l = bare (Co.text s) v ∧ r = some (s, v)) ∨ ((∀ (s : Nat) (v : Int), saysB s v → l ≠ bare (Co.text s) v) ∧ r = none)
theorem line_some (l : ByteArray) : ∃ r, LineR l r := by
  by_cases h : ∃ (s : Nat) (v : Int), saysB s v ∧ l = bare (Co.text s) v
  · obtain ⟨s, v, h1, h2⟩ := h
    exact ⟨some (s, v), .inl ⟨s, v, h1, h2, rfl⟩⟩
  · exact ⟨none, .inr ⟨fun s v h1 h2 => h ⟨s, v, h1, h2⟩, rfl⟩⟩
theorem good_lt {s : Nat} (h : s < 32) : Co.good (s : Int) = true := by unfold Co.good; rw [decide_eq_true_iff]; omega
theorem line_inj {s s' : Nat} {v v' : Int} (h : saysB s v) (h' : saysB s' v') (e : bare (Co.text s) v = bare (Co.text s') v') : s = s' ∧ v = v' := by
  obtain ⟨e1, e2⟩ := bare_inj (text_free _ 32 (.inl rfl)) (text_free _ 32 (.inl rfl)) e
  have := Co.text_inj (good_lt h.1) (good_lt h'.1) e1
  exact ⟨by omega, e2⟩
theorem line_one {l : ByteArray} {r r' : Option (Nat × Int)} (h : LineR l r) (h' : LineR l r') : r = r' := by
  rcases h with ⟨s, v, h1, h2, rfl⟩ | ⟨h1, rfl⟩ <;> rcases h' with ⟨s', v', k1, k2, rfl⟩ | ⟨k1, rfl⟩
  · obtain ⟨rfl, rfl⟩ := line_inj h1 k1 (h2.symm.trans k2)
    rfl
  · exact absurd h2 (k1 s v h1)
  · exact absurd k2 (h1 s' v' k1)
  · rfl
noncomputable def rdFirst (l : ByteArray) : Option Int := Classical.choose (first_some l)
theorem rdFirst_is (l : ByteArray) : FirstR l (rdFirst l) := Classical.choose_spec (first_some l)
theorem rdFirst_of {l : ByteArray} {r : Option Int} (h : FirstR l r) : rdFirst l = r := first_one (rdFirst_is l) h
noncomputable def rdLine (l : ByteArray) : Option (Nat × Int) := Classical.choose (line_some l)
theorem rdLine_is (l : ByteArray) : LineR l (rdLine l) := Classical.choose_spec (line_some l)
theorem rdLine_of {l : ByteArray} {r : Option (Nat × Int)} (h : LineR l r) : rdLine l = r := line_one (rdLine_is l) h
/-- A line that comes behind coalition a's in a game of m values. -/
def fits (a m : Nat) : Option (Nat × Int) → Bool
  | some (s, _) => decide (a < s ∧ s < m)
  | none => false
/-- Reading the lines from the k-th on: values so far, the last coalition; the fault's line, or the values. -/
noncomputable def fold : List ByteArray → Nat → List Int → Nat → Nat ⊕ (List Int × Nat)
  | [], _, vs, a => .inr (vs, a)
  | l :: ls, k, vs, a => match rdLine l with
    | some (s, v) => if a < s ∧ s < vs.length then fold ls (k + 1) (vs.set s v) s else .inl k
    | none => .inl k
theorem fold_bad {l : ByteArray} {ls : List ByteArray} {k : Nat} {vs : List Int} {a : Nat} (h : fits a vs.length (rdLine l) = false) : fold (l :: ls) k vs a = .inl k := by
  unfold fold
  rcases hr : rdLine l with _ | ⟨s, v⟩
  · rfl
  · rw [hr] at h
    exact if_neg (of_decide_eq_false h)
theorem fold_good {l : ByteArray} {ls : List ByteArray} {k : Nat} {vs : List Int} {a s : Nat} {v : Int} (h : rdLine l = some (s, v)) (h2 : a < s) (h3 : s < vs.length) : fold (l :: ls) k vs a = fold ls (k + 1) (vs.set s v) s := by
  conv => lhs; unfold fold
  rw [h]
  exact if_pos ⟨h2, h3⟩
theorem fold_append : ∀ {xs ys : List ByteArray} {k : Nat} {vs vs' : List Int} {a a' : Nat}, fold xs k vs a = .inr (vs', a') → fold (xs ++ ys) k vs a = fold ys (k + xs.length) vs' a'
  | [], ys, k, vs, vs', a, a', h => by
    have h2 : (Sum.inr (vs, a) : Nat ⊕ (List Int × Nat)) = .inr (vs', a') := h
    injection h2 with h2
    injection h2 with h3 h4
    subst h3 h4
    rfl
  | l :: xs, ys, k, vs, vs', a, a', h => by
    rcases hf : fits a vs.length (rdLine l) with _ | _
    · rw [fold_bad hf] at h; cases h
    · rcases hr : rdLine l with _ | ⟨s, v⟩
      · rw [hr] at hf; cases hf
      · rw [hr] at hf
        obtain ⟨h2, h3⟩ := of_decide_eq_true hf
        rw [fold_good hr h2 h3] at h
        rw [List.cons_append, fold_good hr h2 h3, fold_append h, List.length_cons, show k + 1 + xs.length = k + (xs.length + 1) by omega]
/-- The lines of a text. -/
def lines (t : ByteArray) : List ByteArray :=
  let p := Cut.parts 10 t.data.toList
  if p.getLast? = some ⟨#[]⟩ then p.dropLast else p
def zeros (n : Int) : List Int := List.replicate (2 ^ n.toNat) 0
/-- What ParseGame answers. -/
noncomputable def parse (t : ByteArray) : G × Int := match lines t with
  | [] => (G0, 0)
  | l :: ls => match rdFirst l with
    | none => (G0, 0)
    | some n => match fold ls 1 (zeros n) 0 with
      | .inl k => (G0, (k : Int))
      | .inr (vs, _) => if text ⟨n, vs⟩ = t then (⟨n, vs⟩, -1) else (G0, ((ls.length + 1 : Nat) : Int))
theorem parse_none {t : ByteArray} (h : lines t = []) : parse t = (G0, 0) := by unfold parse; rw [h]
theorem parse_first {t l : ByteArray} {ls : List ByteArray} (h : lines t = l :: ls) (h2 : rdFirst l = none) : parse t = (G0, 0) := by unfold parse; rw [h]; dsimp only; rw [h2]
theorem parse_line {t l : ByteArray} {ls : List ByteArray} {n : Int} {k : Nat} (h : lines t = l :: ls) (h2 : rdFirst l = some n) (h3 : fold ls 1 (zeros n) 0 = .inl k) : parse t = (G0, (k : Int)) := by
  unfold parse; rw [h]; dsimp only; rw [h2]; dsimp only; rw [h3]
theorem parse_yes {t l : ByteArray} {ls : List ByteArray} {n : Int} {vs : List Int} {a : Nat} (h : lines t = l :: ls) (h2 : rdFirst l = some n) (h3 : fold ls 1 (zeros n) 0 = .inr (vs, a)) (h4 : text ⟨n, vs⟩ = t) : parse t = (⟨n, vs⟩, -1) := by
  unfold parse; rw [h]; dsimp only; rw [h2]; dsimp only; rw [h3]; exact if_pos h4
theorem parse_no {t l : ByteArray} {ls : List ByteArray} {n : Int} {vs : List Int} {a : Nat} (h : lines t = l :: ls) (h2 : rdFirst l = some n) (h3 : fold ls 1 (zeros n) 0 = .inr (vs, a)) (h4 : text ⟨n, vs⟩ ≠ t) : parse t = (G0, ((ls.length + 1 : Nat) : Int)) := by
  unfold parse; rw [h]; dsimp only; rw [h2]; dsimp only; rw [h3]; exact if_neg h4
/-- What is answered with -1 has the text; other answers are lines. -/
theorem parse_sound (t : ByteArray) : ((parse t).2 = -1 ∧ text (parse t).1 = t) ∨ ((parse t).1 = G0 ∧ 0 ≤ (parse t).2) := by
  rcases h : lines t with _ | ⟨l, ls⟩
  · rw [parse_none h]; exact .inr ⟨rfl, by decide⟩
  · rcases h2 : rdFirst l with _ | n
    · rw [parse_first h h2]; exact .inr ⟨rfl, by decide⟩
    · rcases h3 : fold ls 1 (zeros n) 0 with k | ⟨vs, a⟩
      · rw [parse_line h h2 h3]; exact .inr ⟨rfl, by dsimp only; omega⟩
      · by_cases h4 : text ⟨n, vs⟩ = t
        · rw [parse_yes h h2 h3 h4]; exact .inl ⟨rfl, h4⟩
        · rw [parse_no h h2 h3 h4]; exact .inr ⟨rfl, by dsimp only; omega⟩
/-- A game's text is read back. -/
theorem cut_append (c : UInt8) : ∀ (x y acc : List UInt8) (p : List (List UInt8)) (q : List UInt8), Cut.cut c acc x = p ++ [q] → Cut.cut c acc (x ++ y) = p ++ Cut.cut c q y
  | [], y, acc, p, q, h => by
    have h2 : [acc] = p ++ [q] := h
    rcases p with _ | ⟨p0, p⟩
    · injection h2 with h2; subst h2; rfl
    · injection h2 with _ h2
      exact absurd (congrArg List.length h2) (by simp)
  | d :: x, y, acc, p, q, h => by
    have h' : (if d = c then acc :: Cut.cut c [] x else Cut.cut c (acc ++ [d]) x) = p ++ [q] := h
    show (if d = c then acc :: Cut.cut c [] (x ++ y) else Cut.cut c (acc ++ [d]) (x ++ y)) = _
    by_cases e : d = c
    · rw [if_pos e] at h' ⊢
      rcases p with _ | ⟨p0, p⟩
      · rw [List.nil_append] at h'
        injection h' with _ h2
        have h3 := (Cut.cut_length c x []).1
        rw [h2] at h3
        exact absurd h3 (by simp)
      · injection h' with h1 h2
        subst h1
        rw [cut_append c x y [] p q h2]; rfl
    · rw [if_neg e] at h' ⊢
      exact cut_append c x y (acc ++ [d]) p q h'
theorem cut_line (c : UInt8) (l : List UInt8) (h : c ∉ l) : Cut.cut c [] (l ++ [c]) = [l, []] := by
  have h1 := Cut.cut_none c l [] h
  rw [cut_append c l [c] [] [] l (by simpa using h1)]
  show (if c = c then l :: Cut.cut c [] [] else _) = _
  rw [if_pos rfl]; rfl
def tl (g : G) : Nat → List ByteArray
  | 0 => []
  | k + 1 => if g.v.getD k 0 = 0 then tl g k else tl g k ++ [bare (Co.text k) (g.v.getD k 0)]
theorem body_cut (g : G) : ∀ k, Cut.cut 10 [] (body g k).data.toList = (bare pl g.n :: tl g k).map (·.data.toList) ++ [[]]
  | 0 => by
    show Cut.cut 10 [] (lineOf pl g.n).data.toList = _
    rw [line_data, cut_line _ _ (bare_free _ _ (pl_free 10 (.inr rfl)))]
    rfl
  | k + 1 => by
    have ih := body_cut g k
    by_cases e : g.v.getD k 0 = 0
    · rw [body_skip e]
      show _ = (bare pl g.n :: (if g.v.getD k 0 = 0 then tl g k else _)).map _ ++ _
      rw [if_pos e]; exact ih
    · rw [body_more e]
      show _ = (bare pl g.n :: (if g.v.getD k 0 = 0 then tl g k else tl g k ++ [bare (Co.text k) (g.v.getD k 0)])).map _ ++ _
      rw [if_neg e, ByteArray.data_append, Array.toList_append, cut_append _ _ _ _ _ _ ih, line_data, cut_line _ _ (bare_free _ _ (text_free _ 10 (.inr rfl)))]
      simp
theorem lines_of {t : ByteArray} {xs : List ByteArray} (h : Cut.cut 10 [] t.data.toList = xs.map (·.data.toList) ++ [[]]) : lines t = xs := by
  have hp : Cut.parts 10 t.data.toList = xs ++ [⟨#[]⟩] := by
    unfold Cut.parts
    have hx : (xs ++ [(⟨#[]⟩ : ByteArray)]).map (·.data.toList) = Cut.cut 10 [] t.data.toList := by rw [h, List.map_append]; rfl
    exact (Cut.of_data hx).symm
  unfold lines
  rw [hp]
  simp
theorem fold_tl {g : G} (hv : Gm.vld g = true) : ∀ k, k ≤ g.v.length → ∃ a, (a < k ∨ a = 0) ∧ fold (tl g k) 1 (zeros g.n) 0 = .inr (g.v.take k ++ List.replicate (g.v.length - k) 0, a)
  | 0, _ => ⟨0, .inr rfl, by
    show Sum.inr (zeros g.n, 0) = _
    unfold zeros
    rw [← Gm.vld_pow hv]; simp⟩
  | k + 1, hk => by
    obtain ⟨a, ha, ih⟩ := fold_tl hv k (by omega)
    have hl := Gm.vld_len hv
    have hlen : (g.v.take k ++ List.replicate (g.v.length - k) (0 : Int)).length = g.v.length := by simp; omega
    have hg : g.v.take (k + 1) = g.v.take k ++ [g.v.getD k 0] := by
      rw [List.take_succ_eq_append_getElem (by omega), List.getD_eq_getElem?_getD, List.getElem?_eq_getElem (by omega)]; rfl
    have hr : List.replicate (g.v.length - k) (0 : Int) = 0 :: List.replicate (g.v.length - (k + 1)) 0 := by
      rw [show g.v.length - k = (g.v.length - (k + 1)) + 1 by omega, List.replicate_succ]
    by_cases e : g.v.getD k 0 = 0
    · refine ⟨a, by omega, ?_⟩
      show fold (if g.v.getD k 0 = 0 then tl g k else _) 1 _ 0 = _
      rw [if_pos e, ih, hg, e, hr]; simp
    · have hk0 : k ≠ 0 := by rintro rfl; exact e (Gm.vld_parts hv).2.2
      refine ⟨k, .inl (by omega), ?_⟩
      have hv2 := Gm.vld_at hv (k := k) (by omega)
      have hrd : rdLine (bare (Co.text (k : Int)) (g.v.getD k 0)) = some (k, g.v.getD k 0) := rdLine_of (.inl ⟨k, _, ⟨by omega, e, hv2.1, hv2.2⟩, rfl, rfl⟩)
      show fold (if g.v.getD k 0 = 0 then tl g k else tl g k ++ [bare (Co.text k) (g.v.getD k 0)]) 1 _ 0 = _
      rw [if_neg e, fold_append ih, fold_good hrd (by omega) (by omega)]
      show Sum.inr (_, k) = _
      rw [hg, hr]
      have hk2 : (g.v.take k).length = k := by simp; omega
      rw [List.set_append_right _ _ (by omega), hk2, Nat.sub_self, List.set_cons_zero]
      simp
theorem parse_text {g : G} (hv : Gm.vld g = true) : parse (text g) = (g, -1) := by
  have hn := Gm.vld_n hv
  have h1 : lines (text g) = bare pl g.n :: tl g g.v.length := lines_of (by rw [text_yes hv]; exact body_cut g _)
  obtain ⟨a, _, h3⟩ := fold_tl hv g.v.length (Nat.le_refl _)
  have h2 : rdFirst (bare pl g.n) = some g.n := rdFirst_of (.inl ⟨g.n, hn.1, hn.2, rfl, rfl⟩)
  rw [List.take_length, Nat.sub_self, List.replicate_zero, List.append_nil] at h3
  exact parse_yes h1 h2 h3 rfl
theorem parse_empty : parse ⟨#[]⟩ = (G0, 0) := parse_none (by decide)
end Go.Proofs.YtambneapofaclaaGreatDoor.Gt
