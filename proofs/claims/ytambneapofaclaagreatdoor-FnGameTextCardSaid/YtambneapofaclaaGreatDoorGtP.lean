/- Lines of a game's text in plain terms: the code's cuts of texts and lines. -/
import Derived.Test.YtambneapofaclaaGreatDoorGtN
import Derived.Test.YtambneapofaclaaGreatDoorCoParse
namespace Go.Proofs.YtambneapofaclaaGreatDoor.Gt
open Go
open Gm (G G0)
theorem join_snoc (sep x : List UInt8) : ∀ (p : List (List UInt8)), p ≠ [] → Lib.join (p ++ [x]) sep = Lib.join p sep ++ (sep ++ x)
  | [], h => absurd rfl h
  | [a], _ => by simp [Lib.join, List.intercalate]
  | a :: b :: r, _ => by
    rw [List.cons_append, List.cons_append, Cut.join_cons2, ← List.cons_append, join_snoc sep x (b :: r) (by simp), Cut.join_cons2]
    simp
theorem cut_snoc (c : UInt8) (l acc : List UInt8) : Cut.cut c acc (l ++ [c]) = Cut.cut c acc l ++ [[]] := by
  obtain ⟨p, q, h⟩ : ∃ p q, Cut.cut c acc l = p ++ [q] := by
    have h1 := (Cut.cut_length c l acc).1
    have hne : Cut.cut c acc l ≠ [] := fun e => by rw [e] at h1; exact absurd h1 (by simp)
    exact ⟨_, _, (List.dropLast_concat_getLast hne).symm⟩
  rw [cut_append c l [c] acc p q h, h]
  show p ++ (if c = c then q :: Cut.cut c [] [] else _) = _
  rw [if_pos rfl]
  simp [Cut.cut]
/-- A text without a newline at its end has no empty line at its end. -/
theorem last_full {l : List UInt8} (hne : l ≠ []) (h : ∀ a, l ≠ a ++ [10]) : (Cut.parts 10 l).getLast? ≠ some ⟨#[]⟩ := by
  intro e
  unfold Cut.parts at e
  rw [List.getLast?_map] at e
  obtain ⟨q, hq, hq2⟩ := Option.map_eq_some_iff.1 e
  have hq3 : q = [] := by
    have := congrArg (fun x : ByteArray => x.data.toList) hq2
    simpa using this
  subst hq3
  have hj := Cut.join_cut 10 l []
  obtain ⟨p, hp⟩ : ∃ p, Cut.cut 10 [] l = p ++ [[]] := by
    obtain ⟨hn, hl⟩ := List.getLast?_eq_some_iff.1 hq
    exact ⟨hn, hl⟩
  rw [hp] at hj
  by_cases hp0 : p = []
  · subst hp0
    simp [Lib.join, List.intercalate] at hj
    exact hne hj
  · rw [join_snoc _ _ p hp0] at hj
    exact h (Lib.join p [10]) (by simpa using hj.symm)
/-- The code's lines: one empty line for the empty text. -/
def trim (t : ByteArray) : ByteArray := ⟨(Lib.trimSuffix t.data.toList [10]).toArray⟩
def clines (t : ByteArray) : List ByteArray := Cut.parts 10 (trim t).data.toList
theorem trim_data (t : ByteArray) : (trim t).data.toList = Lib.trimSuffix t.data.toList [10] := by unfold trim; simp
theorem trim_size (t : ByteArray) : (trim t).size ≤ t.size := by
  have h1 := Lib.trimSuffix_le t.data.toList [10]
  have h2 := Lib.size_eq t
  show (Lib.trimSuffix t.data.toList [10]).toArray.size ≤ t.size
  rw [h2]
  simpa using h1
theorem clines_lines {t : ByteArray} (h : t.data.toList ≠ []) : clines t = lines t := by
  unfold clines
  rw [trim_data]
  by_cases hs : ∃ a, t.data.toList = a ++ [10]
  · obtain ⟨a, ha⟩ := hs
    have ht : Lib.trimSuffix t.data.toList [10] = a := by
      unfold Lib.trimSuffix Lib.hasSuffix
      rw [ha, if_pos (by rw [List.isSuffixOf_iff_suffix]; exact List.suffix_append _ _)]
      simp
    rw [ht]
    exact (lines_of (by rw [ha, cut_snoc, Cut.map_parts])).symm
  · have hn : ∀ a, t.data.toList ≠ a ++ [10] := fun a e => hs ⟨a, e⟩
    have ht : Lib.trimSuffix t.data.toList [10] = t.data.toList := by
      unfold Lib.trimSuffix Lib.hasSuffix
      rw [if_neg]
      rw [List.isSuffixOf_iff_suffix]
      rintro ⟨a, ha⟩
      exact hn a ha.symm
    rw [ht]
    unfold lines
    dsimp only
    rw [if_neg (last_full h hn)]
theorem clines_empty {t : ByteArray} (h : t.data.toList = []) : clines t = [⟨#[]⟩] ∧ lines t = [] := by
  obtain rfl : t = ⟨#[]⟩ := bytes_ext (by rw [h])
  exact ⟨by decide, by decide⟩
theorem first_empty : rdFirst ⟨#[]⟩ = none := rdFirst_of (.inr ⟨(fun n _ _ e => by
  have := congrArg ByteArray.size e
  unfold bare sp pl at this
  simp only [ByteArray.size_append] at this
  have h7 : (⟨#[112, 108, 97, 121, 101, 114, 115]⟩ : ByteArray).size = 7 := rfl
  have h0 : (⟨#[]⟩ : ByteArray).size = 0 := rfl
  omega), rfl⟩)
theorem clines_ne (t : ByteArray) : clines t ≠ [] := by
  have h := (Cut.cut_length 10 (trim t).data.toList []).1
  intro e
  have h2 : (clines t).length = (Cut.cut 10 [] (trim t).data.toList).length := by simp [clines, Cut.parts]
  rw [e] at h2
  simp at h2
  omega
/-- What ParseGame answers, by the code's lines. -/
theorem parse_by {t l : ByteArray} {ls : List ByteArray} (h : clines t = l :: ls) : (rdFirst l = none → parse t = (G0, 0)) ∧ (∀ n, rdFirst l = some n → lines t = l :: ls) := by
  by_cases he : t.data.toList = []
  · obtain ⟨h1, h2⟩ := clines_empty he
    rw [h1] at h
    injection h with h3 h4
    subst h3 h4
    refine ⟨fun _ => parse_none h2, fun n hn => ?_⟩
    rw [first_empty] at hn
    cases hn
  · rw [clines_lines he] at h
    exact ⟨fun h2 => parse_first h h2, fun _ _ => h⟩
/-- The first line by the code: a prefix and the rest. -/
def pre8 : List UInt8 := [112, 108, 97, 121, 101, 114, 115, 32]
theorem pre_bare (n : Int) : (bare pl n).data.toList = pre8 ++ Lib.itoa n := by rw [bare_data]; rfl
theorem first_nopre {l : ByteArray} (h : Lib.hasPrefix l.data.toList pre8 = false) : rdFirst l = none :=
  rdFirst_of (.inr ⟨(fun n _ _ e => by
    rw [e, pre_bare] at h
    unfold Lib.hasPrefix at h
    rw [List.isPrefixOf_iff_prefix.2 (List.prefix_append _ _)] at h
    cases h), rfl⟩)
theorem trim_pre {l : ByteArray} (h : Lib.hasPrefix l.data.toList pre8 = true) : l.data.toList = pre8 ++ Lib.trimPrefix l.data.toList pre8 := by
  have h2 := h
  unfold Lib.hasPrefix at h2
  obtain ⟨r, hr⟩ := List.isPrefixOf_iff_prefix.1 h2
  unfold Lib.trimPrefix
  rw [if_pos h, ← hr]
  simp
theorem first_bad {l : ByteArray} {b : List UInt8} (h : l.data.toList = pre8 ++ b) (h2 : ∀ n : Int, 1 ≤ n → n ≤ 5 → Lib.itoa n ≠ b) : rdFirst l = none :=
  rdFirst_of (.inr ⟨(fun n n1 n2 e => by
    rw [e, pre_bare] at h
    exact h2 n n1 n2 (List.append_cancel_left h)), rfl⟩)
theorem first_yes {l : ByteArray} {b : List UInt8} {n : Int} (h : l.data.toList = pre8 ++ b) (h1 : 1 ≤ n) (h2 : n ≤ 5) (h3 : Lib.itoa n = b) : rdFirst l = some n :=
  rdFirst_of (.inl ⟨n, h1, h2, bytes_ext (by rw [h, pre_bare, h3]), rfl⟩)
/-- Another line by the code: cut at its first blank. -/
theorem line_noblank {l : ByteArray} (h : (32 : UInt8) ∉ l.data.toList) : rdLine l = none :=
  rdLine_of (.inr ⟨(fun s v _ e => h (by rw [e, bare_data]; simp)), rfl⟩)
theorem line_at {l : ByteArray} {a b : List UInt8} (h : l.data.toList = a ++ 32 :: b) (ha : (32 : UInt8) ∉ a) {s : Nat} {v : Int} (e : l = bare (Co.text s) v) : (Co.text (s : Int)).data.toList = a ∧ Lib.itoa v = b := by
  rw [e, bare_data] at h
  exact first_blank (text_free _ 32 (.inl rfl)) ha h
theorem line_noword2 {l : ByteArray} {a b : List UInt8} (h : l.data.toList = a ++ 32 :: b) (ha : (32 : UInt8) ∉ a) (h2 : ∀ m : Nat, m < 32 → Co.text (m : Int) ≠ ⟨a.toArray⟩) : rdLine l = none :=
  rdLine_of (.inr ⟨(fun s v h1 e => h2 s h1.1 (bytes_ext (by rw [(line_at h ha e).1]))), rfl⟩)
theorem line_nonum2 {l : ByteArray} {a b : List UInt8} (h : l.data.toList = a ++ 32 :: b) (ha : (32 : UInt8) ∉ a) (h2 : ∀ n : Int, -999999999999 ≤ n → n ≤ 999999999999 → Lib.itoa n ≠ b) : rdLine l = none :=
  rdLine_of (.inr ⟨(fun s v h1 e => by
    obtain ⟨_, _, h3, h4⟩ := h1
    exact h2 v (by omega) (by omega) (line_at h ha e).2), rfl⟩)
theorem line_both2 {l : ByteArray} {a b : List UInt8} (h : l.data.toList = a ++ 32 :: b) (ha : (32 : UInt8) ∉ a) {s : Nat} {v : Int} (hs : s < 32) (h1 : Co.text (s : Int) = ⟨a.toArray⟩) (h2 : Lib.itoa v = b) :
    rdLine l = if v ≠ 0 ∧ -500 ≤ v ∧ v ≤ 500 then some (s, v) else none := by
  by_cases hc : v ≠ 0 ∧ -500 ≤ v ∧ v ≤ 500
  · rw [if_pos hc]
    exact rdLine_of (.inl ⟨s, v, ⟨hs, hc.1, hc.2.1, hc.2.2⟩, bytes_ext (by rw [bare_data, h, h1, h2]), rfl⟩)
  · rw [if_neg hc]
    refine rdLine_of (.inr ⟨(fun s' v' k e => hc ?_), rfl⟩)
    have := (line_at h ha e).2
    rw [← h2] at this
    rw [← Dec.itoa_inj this]
    exact k.2
/-- Every line is cut so, or holds no blank. -/
theorem blank_or (l : List UInt8) : (32 : UInt8) ∉ l ∨ ∃ a b, l = a ++ 32 :: b ∧ (32 : UInt8) ∉ a := by
  induction l with
  | nil => exact .inl (by simp)
  | cons c l ih =>
    by_cases hc : c = 32
    · exact .inr ⟨[], l, by rw [hc]; rfl, by simp⟩
    · rcases ih with h | ⟨a, b, h1, h2⟩
      · exact .inl (fun hm => by
          rcases List.mem_cons.1 hm with e | e
          · exact hc e.symm
          · exact h e)
      · exact .inr ⟨c :: a, b, by rw [h1]; rfl, fun hm => by
          rcases List.mem_cons.1 hm with e | e
          · exact hc e.symm
          · exact h2 e⟩
end Go.Proofs.YtambneapofaclaaGreatDoor.Gt
