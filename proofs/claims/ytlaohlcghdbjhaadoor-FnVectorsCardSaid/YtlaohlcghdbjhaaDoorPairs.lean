/- Pairs of cells that lie in memory, a list of them: kept over calls and new blocks. -/
import Derived.Test.YtlaohlcghdbjhaaDoorSince
namespace Go.Proofs.YtlaohlcghdbjhaaDoor
open Go.RowKit

theorem pr_alloc {w : World} {p : Nat} {o : Obj} (h : w.heap[p]? = some o) (o2 : Obj) : (w.alloc o2).heap[p]? = some o := by
  rw [Below.heap_alloc _ _ _ (lt_of_at h)]; exact h
theorem pr_new (w : World) (o : Obj) : (w.alloc o).heap[w.heap.size]? = some o := by show (w.heap.push o)[w.heap.size]? = some o; simp
/-- Each p of the list is a pair N, D of ints, in a block of its own of element type t. -/
def PairsAt (t : TypeId) (w : World) (L : List (Nat × Int × Int)) : Prop := ∀ x, x ∈ L → w.heap[x.1]? = some (.cells #[.int .i64 x.2.1, .int .i64 x.2.2] t)
theorem PairsAt.nil (t : TypeId) (w : World) : PairsAt t w [] := fun x h => by cases h
theorem PairsAt.below {t : TypeId} {w w' : World} {L : List (Nat × Int × Int)} (h : PairsAt t w L) (hb : Below w.heap.size w w') : PairsAt t w' L :=
  fun x hx => (hb.block x.1 (lt_of_at (h x hx))).trans (h x hx)
theorem PairsAt.add {t : TypeId} {w : World} {L : List (Nat × Int × Int)} (h : PairsAt t w L) (n d : Int) : PairsAt t (w.alloc (.cells #[.int .i64 n, .int .i64 d] t)) ((w.heap.size, n, d) :: L) := fun x hx => by
  rcases List.mem_cons.1 hx with rfl | hx
  · exact pr_new w _
  · exact pr_alloc (h x hx) _
theorem PairsAt.more {t : TypeId} {w : World} {L : List (Nat × Int × Int)} (h : PairsAt t w L) (o : Obj) : PairsAt t (w.alloc o) L := fun x hx => pr_alloc (h x hx) _
theorem PairsAt.drew {t : TypeId} {w : World} {L : List (Nat × Int × Int)} (h : PairsAt t w L) : PairsAt t w.drew L := h
theorem PairsAt.get {t : TypeId} {w : World} {L : List (Nat × Int × Int)} (h : PairsAt t w L) {p : Nat} {n d : Int} (hm : (p, n, d) ∈ L) :
    w.cell? ⟨p, 0, none⟩ = some (.int .i64 n) ∧ w.cell? ⟨p, 1, none⟩ = some (.int .i64 d) ∧ p < w.heap.size := by
  have h1 := h _ hm
  exact ⟨(cells2_of h1).1, (cells2_of h1).2.1, lt_of_at h1⟩
end Go.Proofs.YtlaohlcghdbjhaaDoor
