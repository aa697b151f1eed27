/- The text of a fraction in plain terms; what a text cut at the slash tells. -/
import Derived.Test.YtlaohlcghdbjhaaDoorRaM
import Derived.Test.YtlaohlcghdbjhaaDoorDec
import Derived.Test.YtlaohlcghdbjhaaDoorSplitM
namespace Go.Proofs.YtlaohlcghdbjhaaDoor.Ra

/-- The text of n / d. -/
def txt (n d : Int) : List UInt8 := if d = 1 then Lib.itoa n else Lib.itoa n ++ 47 :: Lib.itoa d
/-- FormatRat's answer. -/
def fmt (n d : Int) : List UInt8 := if vld n d then txt n d else []
theorem fmt_no {n d : Int} (h : vld n d = false) : fmt n d = [] := by unfold fmt; rw [h]; rfl
theorem fmt_yes {n d : Int} (h : vld n d = true) : fmt n d = txt n d := by unfold fmt; rw [if_pos h]
theorem itoa_no_slash (n : Int) : (47 : UInt8) ∉ Lib.itoa n := by
  intro h
  have hd : ∀ u : Nat, (47 : UInt8) ∉ Lib.decDigits u := fun u h => by
    have := Dec.digits_digit u _ h
    have e : (47 : UInt8).toNat = 47 := by decide
    omega
  rcases Int.lt_trichotomy n 0 with h1 | h1 | h1
  · rw [Dec.itoa_neg h1] at h
    rcases List.mem_cons.1 h with h2 | h2
    · exact absurd h2 (by decide)
    · exact hd _ h2
  · subst h1
    rw [Dec.itoa_zero] at h
    exact absurd h (by decide)
  · rw [Dec.itoa_pos h1] at h
    exact hd _ h
theorem itoa_ne_nil (n : Int) : Lib.itoa n ≠ [] := by
  rcases Int.lt_trichotomy n 0 with h1 | h1 | h1
  · rw [Dec.itoa_neg h1]; exact List.cons_ne_nil _ _
  · subst h1; rw [Dec.itoa_zero]; exact List.cons_ne_nil _ _
  · rw [Dec.itoa_pos h1]; exact Dec.decDigits_ne _
theorem txt_ne_nil (n d : Int) : txt n d ≠ [] := by
  unfold txt
  split
  · exact itoa_ne_nil n
  · intro h
    exact itoa_ne_nil n (List.append_eq_nil_iff.1 h).1

/-- A list without b is its own one part; one with b right behind is parted there. -/
theorem cut_none (b : UInt8) : ∀ (l acc : List UInt8), b ∉ l → Cut.cut b acc l = [acc ++ l]
  | [], acc, _ => by simp [Cut.cut]
  | c :: l, acc, h => by
    have hc : ¬ c = b := fun e => h (by rw [e]; exact List.mem_cons_self)
    show (if c = b then acc :: Cut.cut b [] l else Cut.cut b (acc ++ [c]) l) = _
    rw [if_neg hc, cut_none b l _ (fun h1 => h (List.mem_cons_of_mem _ h1))]
    simp
theorem cut_at (b : UInt8) (r : List UInt8) : ∀ (l acc : List UInt8), b ∉ l → Cut.cut b acc (l ++ b :: r) = (acc ++ l) :: Cut.cut b [] r
  | [], acc, _ => by
    show (if b = b then acc :: Cut.cut b [] r else _) = _
    rw [if_pos rfl]; simp
  | c :: l, acc, h => by
    have hc : ¬ c = b := fun e => h (by rw [e]; exact List.mem_cons_self)
    show (if c = b then acc :: Cut.cut b [] (l ++ b :: r) else Cut.cut b (acc ++ [c]) (l ++ b :: r)) = _
    rw [if_neg hc, cut_at b r l _ (fun h1 => h (List.mem_cons_of_mem _ h1))]
    simp
theorem parts_int {l : List UInt8} {n : Int} (h : txt n 1 = l) : Cut.parts 47 l = [⟨(Lib.itoa n).toArray⟩] := by
  subst h
  unfold Cut.parts
  rw [show txt n 1 = Lib.itoa n from rfl, cut_none _ _ _ (itoa_no_slash n)]
  rfl
theorem parts_frac {l : List UInt8} {n d : Int} (hd : d ≠ 1) (h : txt n d = l) : Cut.parts 47 l = [⟨(Lib.itoa n).toArray⟩, ⟨(Lib.itoa d).toArray⟩] := by
  subst h
  unfold Cut.parts txt
  rw [if_neg hd, cut_at _ _ _ _ (itoa_no_slash n), cut_none _ _ _ (itoa_no_slash d)]
  rfl
/-- Where the slash stands. -/
theorem index_none (b : UInt8) : ∀ l : List UInt8, b ∉ l → Lib.indexByte l b = -1
  | [], _ => rfl
  | c :: l, h => by
    have hc : (c == b) = false := by rw [beq_eq_false_iff_ne]; exact fun e => h (by rw [e]; exact List.mem_cons_self)
    unfold Lib.indexByte
    rw [if_neg (by rw [hc]; decide), index_none b l (fun h1 => h (List.mem_cons_of_mem _ h1))]
    rfl
theorem index_at (b : UInt8) (r : List UInt8) : ∀ l : List UInt8, b ∉ l → Lib.indexByte (l ++ b :: r) b = (l.length : Int)
  | [], _ => by show (if b == b then (0 : Int) else _) = _; rw [if_pos (by simp)]; rfl
  | c :: l, h => by
    have hc : (c == b) = false := by rw [beq_eq_false_iff_ne]; exact fun e => h (by rw [e]; exact List.mem_cons_self)
    have ih := index_at b r l (fun h1 => h (List.mem_cons_of_mem _ h1))
    show Lib.indexByte (c :: (l ++ b :: r)) b = _
    unfold Lib.indexByte
    rw [if_neg (by rw [hc]; decide), ih]
    rw [if_neg (by rw [beq_iff_eq]; omega)]
    simp
end Go.Proofs.YtlaohlcghdbjhaaDoor.Ra
