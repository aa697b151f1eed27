/- Plain: a text cut at a byte, and that the library's split is that. No conditions. -/
import Derived.Lib.SplitLaws
import Derived.Lib.CountLaws
import Derived.Lib.IndexBytes
import Derived.WideShapes
import Derived.Lib.Join
namespace Go.Proofs.YtambneapofaclaaGreatDoor.Cut
open Go Go.Lib

def cut (b : UInt8) : List UInt8 → List UInt8 → List (List UInt8)
  | acc, [] => [acc]
  | acc, c :: r => if c = b then acc :: cut b [] r else cut b (acc ++ [c]) r

theorem cut_index (b : UInt8) : ∀ (l acc : List UInt8), (indexByte l b = -1 → cut b acc l = [acc ++ l]) ∧
    (∀ i : Nat, indexByte l b = i → cut b acc l = (acc ++ l.take i) :: cut b [] (l.drop (i + 1)))
  | [], acc => ⟨fun _ => by simp [cut], fun i h => by simp [indexByte] at h⟩
  | c :: l, acc => by
    have ih := cut_index b l (acc ++ [c])
    have hge := indexByte_ge l b
    by_cases hc : c = b
    · subst hc
      refine ⟨fun h => by simp [indexByte] at h, fun i h => ?_⟩
      have h0 : i = 0 := by simp [indexByte] at h; omega
      subst h0
      simp [cut]
    · have hb : (c == b) = false := by simpa using hc
      refine ⟨fun h => ?_, fun i h => ?_⟩
      · unfold indexByte at h
        rw [if_neg (by simp [hb])] at h
        by_cases hm : indexByte l b = -1
        · show (if c = b then acc :: cut b [] l else cut b (acc ++ [c]) l) = _
          rw [if_neg hc, ih.1 hm]; simp
        · rw [if_neg (by simpa using hm)] at h
          omega
      · unfold indexByte at h
        rw [if_neg (by simp [hb])] at h
        by_cases hm : indexByte l b = -1
        · rw [if_pos (by simpa using hm)] at h
          omega
        · rw [if_neg (by simpa using hm)] at h
          obtain ⟨j, rfl⟩ : ∃ j, i = j + 1 := ⟨i - 1, by omega⟩
          show (if c = b then acc :: cut b [] l else cut b (acc ++ [c]) l) = _
          rw [if_neg hc, ih.2 j (by omega)]
          simp

theorem indexByte_lt (b : UInt8) : ∀ (l : List UInt8), indexByte l b < l.length ∨ indexByte l b = -1
  | [] => .inr rfl
  | c :: l => by
    have ih := indexByte_lt b l
    unfold indexByte
    simp only [List.length_cons]
    split
    · left; omega
    · split
      · right; rfl
      · rename_i h
        have h2 : ¬ indexByte l b = -1 := by simpa using h
        omega

theorem split_cut (b : UInt8) : ∀ (n : Nat) (l : List UInt8), l.length ≤ n → splitK [b] 0 (count l [b]) l = cut b [] l := by
  intro n
  induction n with
  | zero =>
    intro l hl
    have : l = [] := List.eq_nil_of_length_eq_zero (by omega)
    subst this
    have h : index ([] : List UInt8) [b] = -1 := rfl
    rw [count_miss h]; rfl
  | succ n ih =>
    intro l hl
    have hge := indexByte_ge l b
    have ho := index_one l b
    have hc := cut_index b l []
    by_cases hm : indexByte l b = -1
    · rw [count_miss (by rw [ho]; exact hm), hc.1 hm]; rfl
    · obtain ⟨i, hi⟩ := Int.eq_ofNat_of_zero_le (show 0 ≤ indexByte l b by omega)
      have hidx : index l [b] = i := by rw [ho]; exact hi
      rw [hc.2 i hi, count_hit (by simp) hidx, Nat.add_comm]
      have hne : ¬ (index l [b] == -1) = true := fun e => by have := beq_iff_eq.1 e; omega
      have hlt : i < l.length := by
        have := indexByte_lt b l
        omega
      show (if index l [b] == -1 then [l] else l.take ((index l [b]).toNat + 0) :: splitK [b] 0 (count (l.drop (i + [b].length)) [b]) (l.drop ((index l [b]).toNat + [b].length))) = _
      rw [if_neg hne, hidx]
      simp only [Int.toNat_natCast, Nat.add_zero, List.length_singleton, List.nil_append]
      rw [ih _ (by rw [List.length_drop]; omega)]

/-- The parts as strings. -/
def parts (b : UInt8) (l : List UInt8) : List ByteArray := (cut b [] l).map fun p => ⟨p.toArray⟩
theorem of_data {xs : List ByteArray} {ys : List (List UInt8)} (h : xs.map (·.data.toList) = ys) : xs = ys.map fun p => ⟨p.toArray⟩ := by
  subst h
  induction xs with
  | nil => rfl
  | cons x xs ih => rw [List.map_cons, List.map_cons, ← ih]
theorem splitB_parts (b : UInt8) (s : ByteArray) : splitB ⟨#[b]⟩ 0 (countB s ⟨#[b]⟩) s = parts b s.data.toList :=
  of_data (by rw [splitB_data]; exact split_cut b _ _ (Nat.le_refl _))
theorem parts_length (b : UInt8) (s : ByteArray) : (parts b s.data.toList).length = countB s ⟨#[b]⟩ + 1 := by
  rw [← splitB_parts]; exact splitB_all ⟨#[b]⟩ (Nat.le_refl 1) 0 _ s rfl
theorem cut_length (b : UInt8) : ∀ (l acc : List UInt8), 1 ≤ (cut b acc l).length ∧ (cut b acc l).length ≤ l.length + 1
  | [], acc => by simp [cut]
  | c :: l, acc => by
    show 1 ≤ (if c = b then acc :: cut b [] l else cut b (acc ++ [c]) l).length ∧ _
    show _ ∧ (if c = b then acc :: cut b [] l else cut b (acc ++ [c]) l).length ≤ _
    split
    · have := cut_length b l []
      simp; omega
    · have := cut_length b l (acc ++ [c])
      simp; omega
/-- What the model's loop keeps: the parts that stand, the place where the next one begins. -/
def Kept (b : UInt8) (l : List UInt8) (k : Nat) (done : List ByteArray) (from_ : Nat) : Prop :=
  from_ ≤ k ∧ k ≤ l.length ∧ done.map (·.data.toList) ++ cut b ((l.drop from_).take (k - from_)) (l.drop k) = cut b [] l ∧ done.length ≤ k
theorem kept_start (b : UInt8) (l : List UInt8) : Kept b l 0 [] 0 := ⟨Nat.le_refl _, Nat.zero_le _, by simp, Nat.zero_le _⟩
theorem kept_hit {b : UInt8} {l : List UInt8} {k f : Nat} {done : List ByteArray} (h : Kept b l k done f) (hk : k < l.length) (hb : l[k] = b) (p : ByteArray)
    (hp : p.data.toList = (l.drop f).take (k - f)) : Kept b l (k + 1) (done ++ [p]) (k + 1) := by
  obtain ⟨h1, h2, h3, h4⟩ := h
  refine ⟨Nat.le_refl _, hk, ?_, by simp; omega⟩
  rw [← h3, List.drop_eq_getElem_cons hk]
  show _ = _ ++ (if l[k] = b then _ else _)
  rw [if_pos hb]
  simp [hp]
theorem kept_pass {b : UInt8} {l : List UInt8} {k f : Nat} {done : List ByteArray} (h : Kept b l k done f) (hk : k < l.length) (hb : l[k] ≠ b) : Kept b l (k + 1) done f := by
  obtain ⟨h1, h2, h3, h4⟩ := h
  refine ⟨by omega, hk, ?_, by omega⟩
  rw [← h3, List.drop_eq_getElem_cons hk]
  show _ = _ ++ (if l[k] = b then _ else _)
  rw [if_neg hb]
  congr 2
  rw [show k + 1 - f = (k - f) + 1 by omega, List.take_add_one]
  congr 1
  rw [List.getElem?_drop, show f + (k - f) = k by omega, List.getElem?_eq_getElem hk]; rfl
theorem kept_end {b : UInt8} {l : List UInt8} {f : Nat} {done : List ByteArray} (h : Kept b l l.length done f) (p : ByteArray) (hp : p.data.toList = (l.drop f).take (l.length - f)) :
    done ++ [p] = parts b l := by
  obtain ⟨h1, h2, h3, h4⟩ := h
  apply of_data
  rw [← h3, List.drop_length]
  simp [cut, hp]

theorem join_cons2 (x y : List UInt8) (r : List (List UInt8)) (sep : List UInt8) : Lib.join (x :: y :: r) sep = x ++ (sep ++ Lib.join (y :: r) sep) := by
  simp [Lib.join, List.intercalate]
theorem cut_cons (b : UInt8) (l acc : List UInt8) : ∃ x r, cut b acc l = x :: r := by
  have := (cut_length b l acc).1
  cases h : cut b acc l with
  | nil => rw [h] at this; simp at this
  | cons x r => exact ⟨x, r, rfl⟩
theorem join_cut (b : UInt8) : ∀ (l acc : List UInt8), Lib.join (cut b acc l) [b] = acc ++ l
  | [], acc => by simp [cut, Lib.join, List.intercalate]
  | c :: l, acc => by
    show Lib.join (if c = b then acc :: cut b [] l else cut b (acc ++ [c]) l) [b] = _
    by_cases h : c = b
    · rw [if_pos h]
      have ih := join_cut b l []
      obtain ⟨x, r, e⟩ := cut_cons b l []
      rw [e] at ih ⊢
      rw [join_cons2, ih, h]; simp
    · rw [if_neg h, join_cut b l (acc ++ [c])]; simp
theorem cut_free (b : UInt8) : ∀ (l acc : List UInt8), b ∉ acc → ∀ p ∈ cut b acc l, b ∉ p
  | [], acc, h, p, hp => by simp [cut] at hp; subst hp; exact h
  | c :: l, acc, h, p, hp => by
    replace hp : p ∈ (if c = b then acc :: cut b [] l else cut b (acc ++ [c]) l) := hp
    by_cases hc : c = b
    · rw [if_pos hc] at hp
      rcases List.mem_cons.1 hp with rfl | hp
      · exact h
      · exact cut_free b l [] (by simp) p hp
    · rw [if_neg hc] at hp
      exact cut_free b l (acc ++ [c]) (by simp [h]; exact fun e => hc e.symm) p hp
theorem cut_none (b : UInt8) : ∀ (l acc : List UInt8), b ∉ l → cut b acc l = [acc ++ l]
  | [], acc, _ => by simp [cut]
  | c :: l, acc, h => by
    show (if c = b then acc :: cut b [] l else cut b (acc ++ [c]) l) = _
    rw [if_neg (fun e => h (by simp [e])), cut_none b l (acc ++ [c]) (fun e => h (by simp [e]))]; simp
theorem map_parts (b : UInt8) (l : List UInt8) : (parts b l).map (·.data.toList) = cut b [] l := by
  unfold parts
  rw [List.map_map]
  exact List.map_id' _
theorem join_parts (b : UInt8) (s : ByteArray) : (⟨(Lib.join ((parts b s.data.toList).map (·.data.toList)) [b]).toArray⟩ : ByteArray) = s := by
  rw [map_parts, join_cut]; simp
theorem parts_one {b : UInt8} {l : List UInt8} {p : ByteArray} (h : p ∈ parts b l) : (parts b p.data.toList).length = 1 := by
  unfold parts at h ⊢
  obtain ⟨q, hq, rfl⟩ := List.mem_map.1 h
  have := cut_free b l [] (by simp) q hq
  rw [List.length_map]
  show (cut b [] q).length = 1
  rw [cut_none b q [] this]; rfl
theorem part_le {b : UInt8} : ∀ {l acc : List UInt8} {q : List UInt8}, q ∈ cut b acc l → q.length ≤ acc.length + l.length
  | [], acc, q, h => by simp [cut] at h; subst h; simp
  | c :: l, acc, q, h => by
    replace h : q ∈ (if c = b then acc :: cut b [] l else cut b (acc ++ [c]) l) := h
    by_cases hc : c = b
    · rw [if_pos hc] at h
      rcases List.mem_cons.1 h with rfl | h
      · omega
      · have := part_le h; simp at this ⊢; omega
    · rw [if_neg hc] at h
      have := part_le h; simp at this ⊢; omega
end Go.Proofs.YtambneapofaclaaGreatDoor.Cut
