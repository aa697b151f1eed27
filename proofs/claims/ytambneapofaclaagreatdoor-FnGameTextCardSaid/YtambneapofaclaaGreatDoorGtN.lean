/- Lines of a game's text in plain terms: what the specification's parts at a blank say, and the code's cuts. -/
import Derived.Test.YtambneapofaclaaGreatDoorGtM
import Derived.Lib.IndexMore
import Derived.Lib.Strings
namespace Go.Proofs.YtambneapofaclaaGreatDoor.Gt
open Go
/-- The parts of a line at its blanks. -/
def wordsOf (l : ByteArray) : List ByteArray := Cut.parts 32 l.data.toList
theorem of_two {l a b : ByteArray} (h : wordsOf l = [a, b]) : l = (a ++ sp) ++ b := by
  have h1 := Cut.join_parts 32 l
  rw [show Cut.parts 32 l.data.toList = [a, b] from h] at h1
  rw [← h1]
  apply bytes_ext
  simp [Lib.join, List.intercalate, sp]
theorem words_bare {a : ByteArray} {n : Int} (ha : (32 : UInt8) ∉ a.data.toList) : wordsOf (bare a n) = [a, num n] := by
  have h1 : Cut.cut 32 [] (bare a n).data.toList = [a.data.toList] ++ [Lib.itoa n] := by
    rw [bare_data, show a.data.toList ++ 32 :: Lib.itoa n = (a.data.toList ++ [32]) ++ Lib.itoa n by simp,
      cut_append 32 _ (Lib.itoa n) [] [a.data.toList] [] (cut_line 32 _ ha), Cut.cut_none 32 _ _ (itoa_free n 32 (.inl rfl))]
    simp
  unfold wordsOf Cut.parts
  rw [h1]
  rfl
theorem num_data (n : Int) : (num n).data.toList = Lib.itoa n := by unfold num; simp
theorem num_of {n : Int} {b : ByteArray} (h : Lib.itoa n = b.data.toList) : b = num n := bytes_ext (by rw [num_data]; exact h.symm)
/-- A first line, as the specification reads it. -/
inductive FirstS (l : ByteArray) : Option Int → Prop
  | len (h : ((wordsOf l).length : Int) ≠ 2) : FirstS l none
  | word (a b : ByteArray) (h : wordsOf l = [a, b]) (h2 : a ≠ pl) : FirstS l none
  | bad (b : ByteArray) (h : wordsOf l = [pl, b]) (h2 : ∀ n : Int, 0 ≤ n → n ≤ 999999 → Lib.itoa n ≠ b.data.toList) : FirstS l none
  | out (b : ByteArray) (n : Int) (h : wordsOf l = [pl, b]) (h2 : Lib.itoa n = b.data.toList) (h3 : 0 ≤ n ∧ n ≤ 999999) (h4 : ¬ (1 ≤ n ∧ n ≤ 5)) : FirstS l none
  | yes (b : ByteArray) (n : Int) (h : wordsOf l = [pl, b]) (h2 : Lib.itoa n = b.data.toList) (h3 : 1 ≤ n ∧ n ≤ 5) : FirstS l (some n)
theorem first_is {l : ByteArray} (h : ∀ n : Int, 1 ≤ n → n ≤ 5 → wordsOf l ≠ [pl, num n]) : rdFirst l = none :=
  rdFirst_of (.inr ⟨fun n h1 h2 e => h n h1 h2 (by rw [e]; exact words_bare (pl_free 32 (.inl rfl))), rfl⟩)
theorem firstS (l : ByteArray) : FirstS l (rdFirst l) := by
  rcases hw : wordsOf l with _ | ⟨a, _ | ⟨b, _ | ⟨c, r⟩⟩⟩
  · rw [first_is (l := l) (fun n _ _ e => by rw [hw] at e; cases e)]
    exact .len (by rw [hw]; decide)
  · rw [first_is (l := l) (fun n _ _ e => by rw [hw] at e; cases e)]
    exact .len (by rw [hw]; simp)
  · by_cases ha : a = pl
    · subst ha
      by_cases hn : ∃ n : Int, 0 ≤ n ∧ n ≤ 999999 ∧ Lib.itoa n = b.data.toList
      · obtain ⟨n, h0, h1, h2⟩ := hn
        by_cases h5 : 1 ≤ n ∧ n ≤ 5
        · rw [rdFirst_of (l := l) (r := some n) (.inl ⟨n, h5.1, h5.2, by rw [of_two hw, num_of h2]; rfl, rfl⟩)]
          exact .yes b n hw h2 h5
        · rw [first_is (l := l) (fun m m1 m2 e => by
            rw [hw] at e
            injection e with _ e
            injection e with e _
            rw [e, num_data] at h2
            exact h5 (by rw [Dec.itoa_inj h2]; exact ⟨m1, m2⟩))]
          exact .out b n hw h2 ⟨h0, h1⟩ h5
      · rw [first_is (l := l) (fun m m1 m2 e => by
          rw [hw] at e
          injection e with _ e
          injection e with e _
          exact hn ⟨m, by omega, by omega, by rw [e, num_data]⟩)]
        exact .bad b hw fun n h0 h1 h2 => hn ⟨n, h0, h1, h2⟩
    · rw [first_is (l := l) (fun n _ _ e => by
        rw [hw] at e
        injection e with e _
        exact ha e)]
      exact .word a b hw ha
  · rw [first_is (l := l) (fun n _ _ e => by
      rw [hw] at e
      injection e with _ e
      injection e with _ e
      cases e)]
    exact .len (by rw [hw]; simp; omega)
/-- Another line: its two words say a coalition s (of a set of answers that both sides share) and a number. -/
theorem line_is {l : ByteArray} (h : ∀ (s : Nat) (v : Int), saysB s v → wordsOf l ≠ [Co.text s, num v]) : rdLine l = none :=
  rdLine_of (.inr ⟨fun s v h1 e => h s v h1 (by rw [e]; exact words_bare (text_free _ 32 (.inl rfl))), rfl⟩)
theorem line_len {l : ByteArray} (h : ((wordsOf l).length : Int) ≠ 2) : rdLine l = none :=
  line_is fun s v _ e => h (by rw [e]; rfl)
/-- Two words: no coalition, or no number; else a coalition and a number. -/
theorem line_noword {l a b : ByteArray} (hw : wordsOf l = [a, b]) (h : ∀ m : Nat, m < 32 → Co.text (m : Int) ≠ a) : rdLine l = none :=
  line_is fun s v h1 e => by
    rw [hw] at e
    injection e with e _
    exact h s h1.1 e.symm
theorem line_nonum {l a b : ByteArray} (hw : wordsOf l = [a, b]) (h : ∀ n : Int, -999999999999 ≤ n → n ≤ 999999999999 → Lib.itoa n ≠ b.data.toList) : rdLine l = none :=
  line_is fun s v h1 e => by
    rw [hw] at e
    injection e with _ e
    injection e with e _
    obtain ⟨_, _, h3, h4⟩ := h1
    exact h v (by omega) (by omega) (by rw [e, num_data])
theorem line_both {l a b : ByteArray} (hw : wordsOf l = [a, b]) {s : Nat} {v : Int} (hs : s < 32) (ha : Co.text (s : Int) = a) (hb : Lib.itoa v = b.data.toList) :
    rdLine l = if v ≠ 0 ∧ -500 ≤ v ∧ v ≤ 500 then some (s, v) else none := by
  by_cases h : v ≠ 0 ∧ -500 ≤ v ∧ v ≤ 500
  · rw [if_pos h]
    exact rdLine_of (.inl ⟨s, v, ⟨hs, h.1, h.2.1, h.2.2⟩, by rw [of_two hw, ← ha, num_of hb]; rfl, rfl⟩)
  · rw [if_neg h]
    refine line_is fun s' v' h1 e => h ?_
    rw [hw] at e
    injection e with _ e
    injection e with e _
    rw [e, num_data] at hb
    rw [Dec.itoa_inj hb]
    exact h1.2
/-- The code's cut at the first blank. -/
theorem index_blank : ∀ l : List UInt8, Lib.index l [32] = Lib.indexByte l 32
  | l => Lib.index_one l 32
theorem cut_miss {l : List UInt8} (h : (32 : UInt8) ∉ l) : Lib.cut l [32] = (l, [], false) := by
  have h1 := Cut.cut_none 32 l [] h
  have h2 := Cut.cut_index 32 l []
  have hi : Lib.indexByte l 32 = -1 := by
    have hge := Lib.indexByte_ge l 32
    by_cases e : Lib.indexByte l 32 = -1
    · exact e
    · obtain ⟨i, hi⟩ := Int.eq_ofNat_of_zero_le (show 0 ≤ Lib.indexByte l 32 by omega)
      have h3 := h2.2 i hi
      rw [h1] at h3
      have := (Cut.cut_length 32 (l.drop (i + 1)) []).1
      have h4 := congrArg List.length h3
      simp at h4
      rw [h4] at this
      exact absurd this (by simp)
  unfold Lib.cut
  rw [index_blank, hi, if_neg (by omega)]
theorem cut_hit {a b : List UInt8} (h : (32 : UInt8) ∉ a) : Lib.cut (a ++ 32 :: b) [32] = (a, b, true) := by
  have h2 := Cut.cut_index 32 (a ++ 32 :: b) []
  have h1 : Cut.cut 32 [] (a ++ 32 :: b) = [a] ++ Cut.cut 32 [] b := by
    rw [show a ++ 32 :: b = (a ++ [32]) ++ b by simp]
    exact cut_append 32 _ b [] [a] [] (cut_line 32 _ h)
  have hge := Lib.indexByte_ge (a ++ 32 :: b) 32
  have hi : Lib.indexByte (a ++ 32 :: b) 32 = (a.length : Int) := by
    by_cases e : Lib.indexByte (a ++ 32 :: b) 32 = -1
    · have h3 := h2.1 e
      rw [h1] at h3
      have h4 := congrArg List.length h3
      have h5 := (Cut.cut_length 32 b []).1
      simp at h4
      rw [h4] at h5
      exact absurd h5 (by simp)
    · obtain ⟨i, hi⟩ := Int.eq_ofNat_of_zero_le (show 0 ≤ Lib.indexByte (a ++ 32 :: b) 32 by omega)
      have h3 := h2.2 i hi
      rw [h1] at h3
      injection h3 with h3 _
      have hlt := Cut.indexByte_lt 32 (a ++ 32 :: b)
      have h4 := congrArg List.length h3
      rw [List.nil_append, List.length_take] at h4
      omega
  unfold Lib.cut
  rw [index_blank, hi, if_pos (by omega)]
  simp
end Go.Proofs.YtambneapofaclaaGreatDoor.Gt
