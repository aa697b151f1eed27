/- Members and letters of a coalition, in plain terms; nothing of the program. -/
import Derived.Test.YtpjnjidbdpfdcaaGM
namespace Go.Proofs.Ytpjnjidbdpfdcaa.Co

def mem (s : Int) : Nat → List Int
 | 0 => []
 | k + 1 => if has s k then mem s k ++ [(k : Int)] else mem s k
theorem mem_yes {s : Int} {k : Nat} (h : has s k = true) : mem s (k + 1) = mem s k ++ [(k : Int)] := by simp [mem, h]
theorem mem_no {s : Int} {k : Nat} (h : has s k = false) : mem s (k + 1) = mem s k := by simp [mem, h]
theorem mem_len (s : Int) : ∀ k, (mem s k).length ≤ k
 | 0 => by simp [mem]
 | k + 1 => by have := mem_len s k; rw [mem]; split <;> simp <;> omega
theorem mem_bd (s : Int) : ∀ k, ∀ x ∈ mem s k, 0 ≤ x ∧ x < k
 | 0, x, h => by simp [mem] at h
 | k + 1, x, h => by
  rw [mem] at h
  split at h
  ·
   rcases List.mem_append.1 h with h | h
   ·
    have := mem_bd s k x h; omega
   ·
    have := List.mem_singleton.1 h; omega
  ·
   have := mem_bd s k x h; omega
def climb : List Int → Prop
 | [] => True
 | [_] => True
 | x :: y :: r => x < y ∧ climb (y :: r)
theorem climb_snoc : ∀ (l : List Int) (x : Int), climb l → (∀ y ∈ l, y < x) → climb (l ++ [x])
 | [], _, _, _ => trivial
 | [a], x, _, h => ⟨h a (by simp), trivial⟩
 | a :: b :: r, x, hc, h => ⟨hc.1, climb_snoc (b :: r) x hc.2 (fun y hy => h y (List.mem_cons_of_mem _ hy))⟩
theorem mem_climb (s : Int) : ∀ k, climb (mem s k)
 | 0 => trivial
 | k + 1 => by
  rw [mem]
  split
  ·
   exact climb_snoc _ _ (mem_climb s k) (fun y hy => (mem_bd s k y hy).2)
  ·
   exact mem_climb s k
theorem climb_at : ∀ (l : List Int) (k : Nat) (x y : Int), climb l → l[k]? = some x → l[k + 1]? = some y → x < y
 | [], k, x, y, _, h, _ => by simp at h
 | [a], k, x, y, _, _, h => by simp at h
 | a :: b :: r, 0, x, y, hc, h1, h2 => by simp at h1 h2; subst h1; subst h2; exact hc.1
 | a :: b :: r, k + 1, x, y, hc, h1, h2 => climb_at (b :: r) k x y hc.2 (by simpa using h1) (by simpa using h2)

def letter (k : Int) : UInt8 := UInt8.ofNat (97 + k.toNat)
def lets (s : Int) (k : Nat) : List UInt8 := (mem s k).map letter
theorem lets_yes {s : Int} {k : Nat} (h : has s k = true) : lets s (k + 1) = lets s k ++ [letter k] := by simp [lets, mem_yes h]
theorem lets_no {s : Int} {k : Nat} (h : has s k = false) : lets s (k + 1) = lets s k := by simp [lets, mem_no h]
theorem lets_len (s : Int) (k : Nat) : (lets s k).length ≤ k := by simp [lets]; exact mem_len s k
def text (s : Int) : ByteArray := if good s then (if s = 0 then ⟨#[45]⟩ else ⟨(lets s 5).toArray⟩) else ⟨#[]⟩
theorem text_bad {s : Int} (h : good s = false) : text s = ⟨#[]⟩ := by unfold text; rw [h]; rfl
theorem text_zero : text 0 = ⟨#[45]⟩ := rfl
theorem text_pos {s : Int} (h : good s = true) (h0 : s ≠ 0) : text s = ⟨(lets s 5).toArray⟩ := by unfold text; rw [h, if_pos rfl, if_neg h0]
theorem lets_some : ∀ n : Fin 32, n.val ≠ 0 → lets (n.val : Int) 5 ≠ [] := by decide +kernel
theorem lets_ne {s : Int} (h : good s = true) (h0 : s ≠ 0) : lets s 5 ≠ [] := by
 obtain ⟨n, rfl⟩ := good_fin h
 exact lets_some n (by omega)
theorem text_inj' : ∀ n m : Fin 32, (text (n.val : Int)).data = (text (m.val : Int)).data → n = m := by decide +kernel
theorem text_inj {a b : Int} (ha : good a = true) (hb : good b = true) (h : text a = text b) : a = b := by
 obtain ⟨n, rfl⟩ := good_fin ha; obtain ⟨m, rfl⟩ := good_fin hb
 rw [text_inj' n m (by rw [h])]
theorem text_some' : ∀ n : Fin 32, (text (n.val : Int)).data.size ≠ 0 := by decide +kernel
theorem text_size' : ∀ n : Fin 32, (text (n.val : Int)).data.size ≤ 5 := by decide +kernel
def find (t : ByteArray) : Nat → Option Nat
 | 0 => none
 | n + 1 => match find t n with
  | some m => some m
  | none => if text (n : Int) = t then some n else none
end Go.Proofs.Ytpjnjidbdpfdcaa.Co
