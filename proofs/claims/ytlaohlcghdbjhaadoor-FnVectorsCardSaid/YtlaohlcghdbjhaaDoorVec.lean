/- Slices of fractions: how they read; rows of the call's own. -/
import Derived.Test.YtlaohlcghdbjhaaDoorPairs
import Derived.Test.YtlaohlcghdbjhaaDoorVeM
import Derived.Test.YtlaohlcghdbjhaaDoorInts
namespace Go.Proofs.YtlaohlcghdbjhaaDoor
open Go.RowKit
open Ve (R)

theorem info_rat : (Tryd.prog.info? 26).map (fun i => (i.zero, i.size, i.bytes)) = some (some (.agg #[.int .i64 0, .int .i64 0]), 2, 16) := by kernel_rfl
/-- The cells of a list of fractions. -/
def cellsR : List R → List Value
  | [] => []
  | x :: xs => .int .i64 x.1 :: .int .i64 x.2 :: cellsR xs
theorem cellsR_len : ∀ xs : List R, (cellsR xs).length = xs.length * 2
  | [] => rfl
  | _ :: xs => by simp only [cellsR, List.length_cons, cellsR_len xs]; omega
theorem cellsR_snoc : ∀ (xs : List R) (x : R), cellsR (xs ++ [x]) = cellsR xs ++ [.int .i64 x.1, .int .i64 x.2]
  | [], x => rfl
  | y :: xs, x => by simp only [cellsR, List.cons_append, cellsR_snoc xs x]
theorem cellsR_at : ∀ (xs : List R) (k : Nat) (x : R), xs[k]? = some x → (cellsR xs)[k * 2]? = some (.int .i64 x.1) ∧ (cellsR xs)[k * 2 + 1]? = some (.int .i64 x.2)
  | [], k, x, h => by simp at h
  | y :: xs, 0, x, h => by
    obtain rfl : y = x := by simpa using h
    exact ⟨rfl, rfl⟩
  | y :: xs, k + 1, x, h => by
    have := cellsR_at xs k x (by simpa using h)
    rw [show (k + 1) * 2 = k * 2 + 1 + 1 by omega]
    simp only [cellsR, List.getElem?_cons_succ]
    exact this
/-- A row of the call's own that holds the fractions xs. -/
def OwnRats (B : Nat) (w : World) (v : Value) (xs : List R) : Prop := w.ownsRow B 26 2 v xs.length (cellsR xs)
/-- The slice at a reads as xs; its block lies below B. -/
def RatsIn (B : Nat) (w : World) (a : Option Addr) (xs : List R) : Prop := ∀ j x, xs[j]? = some x → ∃ b o : Nat, a = some ⟨b, o, none⟩ ∧ b < B ∧ w.cell? ⟨b, o + j * 2, none⟩ = some (.int .i64 x.1) ∧ w.cell? ⟨b, o + j * 2 + 1, none⟩ = some (.int .i64 x.2)
theorem RatsIn.nil (B : Nat) (w : World) (a : Option Addr) : RatsIn B w a [] := fun j x h => by simp at h
theorem RatsIn.at {B : Nat} {w : World} {a : Option Addr} {xs : List R} (h : RatsIn B w a xs) (k : Nat) (hk : k < xs.length) :
    ∃ b o : Nat, a = some ⟨b, o, none⟩ ∧ b < B ∧ w.cell? ⟨b, o + k * 2, none⟩ = some (.int .i64 (Ve.at_ xs k).1) ∧ w.cell? ⟨b, o + k * 2 + 1, none⟩ = some (.int .i64 (Ve.at_ xs k).2) :=
  h k _ (Ve.at_get hk)
theorem RatsIn.drewN {B : Nat} {w : World} {a : Option Addr} {xs : List R} (h : RatsIn B w a xs) (d : Nat) : RatsIn B (w.drewN d) a xs := h
theorem RatsIn.drew {B : Nat} {w : World} {a : Option Addr} {xs : List R} (h : RatsIn B w a xs) : RatsIn B w.drew a xs := h
theorem RatsIn.below {B : Nat} {w w' : World} {a : Option Addr} {xs : List R} (h : RatsIn B w a xs) (hb : Below B w w') : RatsIn B w' a xs := fun j x hx => by
  obtain ⟨b, o, h1, h2, h3, h4⟩ := h j x hx
  exact ⟨b, o, h1, h2, by rw [hb.cell (p := ⟨b, o + j * 2, none⟩) h2]; exact h3, by rw [hb.cell (p := ⟨b, o + j * 2 + 1, none⟩) h2]; exact h4⟩
theorem RatsIn.mono {B B' : Nat} {w : World} {a : Option Addr} {xs : List R} (h : RatsIn B w a xs) (hB : B ≤ B') : RatsIn B' w a xs := fun j x hx => by
  obtain ⟨b, o, h1, h2, h3⟩ := h j x hx
  exact ⟨b, o, h1, by omega, h3⟩
/-- What reads as xs reads so in a world in which its block lies as it lay. -/
theorem RatsIn.same {B : Nat} {w w' : World} {a : Option Addr} {xs : List R} (h : RatsIn B w a xs) (ha : ∀ p, a = some p → p.block < B → w'.heap[p.block]? = w.heap[p.block]?) : RatsIn B w' a xs := fun j x hx => by
  obtain ⟨b, o, h1, h2, h3, h4⟩ := h j x hx
  have e := ha ⟨b, o, none⟩ h1 h2
  exact ⟨b, o, h1, h2, by rw [World.cell?_of_block (w := w) (a := ⟨b, o + j * 2, none⟩) e]; exact h3, by rw [World.cell?_of_block (w := w) (a := ⟨b, o + j * 2 + 1, none⟩) e]; exact h4⟩
/-- Where an own slice lies, and how it reads. -/
theorem own_rats {B : Nat} {w : World} {v : Value} {xs : List R} (h : OwnRats B w v xs) :
    ∃ a cap, v = .slice a xs.length cap ∧ RatsIn w.heap.size w a xs ∧ (∀ p, a = some p → B ≤ p.block ∧ p.block < w.heap.size) ∧ (xs ≠ [] → ∃ g, a = some ⟨g, 0, none⟩) := by
  have h' := h
  obtain ⟨h1, ⟨hv, hn⟩ | ⟨g, cap, cur, rfl, hg, hh, hr⟩⟩ := h'
  · have hx : xs = [] := List.eq_nil_of_length_eq_zero hn
    subst hx
    exact ⟨none, 0, by rw [hv]; rfl, RatsIn.nil _ _ _, (fun p hp => by cases hp), fun h => absurd rfl h⟩
  · have hlt : g < w.heap.size := lt_of_at hh
    refine ⟨some ⟨g, 0, none⟩, cap, rfl, fun j x hx => ⟨g, 0, rfl, hlt, ?_⟩, fun p hp => ?_, fun _ => ⟨g, rfl⟩⟩
    · have hj : j < xs.length := (List.getElem?_eq_some_iff.1 hx).1
      obtain ⟨e1, e2⟩ := cellsR_at xs j x hx
      rw [Nat.zero_add, World.ownsRow.cellAt h (j * 2) (by omega), World.ownsRow.cellAt h (j * 2 + 1) (by omega)]
      exact ⟨e1, e2⟩
    · obtain rfl := Option.some.inj hp
      exact ⟨hg, hlt⟩
theorem OwnRats.nil (B : Nat) (w : World) : OwnRats B w (.slice none 0 0) [] := World.ownsRow_nil _ _ _ _
theorem OwnRats.more {B : Nat} {w' : World} {v' : Value} {xs : List R} {x : R} (h : w'.ownsRow B 26 2 v' (xs.length + 1) (cellsR xs ++ [.int .i64 x.1, .int .i64 x.2])) : OwnRats B w' v' (xs ++ [x]) := by
  unfold OwnRats
  rw [cellsR_snoc, List.length_append]
  exact h
theorem OwnRats.below {B : Nat} {w w' : World} {v : Value} {xs : List R} (h : OwnRats B w v xs) (hb : Below w.heap.size w w') : OwnRats B w' v xs :=
  World.ownsRow.kept h (row := none) ⟨hb.os, hb.tape, hb.output, hb.size, fun k hk _ => hb.block k hk⟩ (by cases v.ownBlock <;> simp)
theorem OwnRats.drewN {B : Nat} {w : World} {v : Value} {xs : List R} (h : OwnRats B w v xs) (d : Nat) : OwnRats B (w.drewN d) v xs := h
theorem OwnRats.alloc {B : Nat} {w : World} {v : Value} {xs : List R} (h : OwnRats B w v xs) (o : Obj) : OwnRats B (w.alloc o) v xs := World.ownsRow.alloc h o
theorem OwnRats.lower {B B' : Nat} {w : World} {v : Value} {xs : List R} (h : OwnRats B' w v xs) (hB : B ≤ B') : OwnRats B w v xs := by
  obtain ⟨h1, h2 | ⟨g, cap, cur, e, hg, rest⟩⟩ := h
  · exact ⟨h1, .inl h2⟩
  · exact ⟨h1, .inr ⟨g, cap, cur, e, by omega, rest⟩⟩
/-- What a function that makes a slice of fractions returns. -/
def MakesRats (xs : List R) (w : World) (e : Ending) (w' : World) : Prop := ∃ v, e = .returned v ∧ OwnRats w.heap.size w' v xs ∧ Below w.heap.size w w'
/-- .. and one that says whether they fit. -/
def MakesRatsK (xs : List R) (k : Bool) (w : World) (e : Ending) (w' : World) : Prop := ∃ v, e = .returned (.tuple #[v, .bool k]) ∧ OwnRats w.heap.size w' v xs ∧ Below w.heap.size w w'
/-- .. and one fraction. -/
def OneRat (x : R) (k : Bool) (w : World) (e : Ending) (w' : World) : Prop := e = .returned (.tuple #[.agg #[.int .i64 x.1, .int .i64 x.2], .bool k]) ∧ Below w.heap.size w w'
end Go.Proofs.YtlaohlcghdbjhaaDoor
