/- impl.SplitByte at every text of fewer than 2^32 - 15 bytes: the parts, in a new row. -/
import Derived.Test.YtambneapofaclaaGreatDoorShelf
import Derived.Test.YtambneapofaclaaGreatDoorSpFmt
import Derived.Test.YtambneapofaclaaGreatDoorSplitM
import Derived.Lib.SmallJoins
namespace Go.Proofs.YtambneapofaclaaGreatDoor
open Go.RowKit

/-- What the library's search reads: its bound for short texts. -/
def MaxLenAt (w : World) : Prop := ∃ m : Int, w.cell? ⟨1, 0, none⟩ = some (.int .i64 m)
theorem block_lt {w : World} {p : Addr} {v : Value} (h : w.cell? p = some v) : p.block < w.heap.size := World.block_lt_of_cell? w p h
theorem MaxLenAt.below {w w' : World} (h : MaxLenAt w) (hb : Below w.heap.size w w') : MaxLenAt w' := by
  obtain ⟨m, hm⟩ := h
  exact ⟨m, by rw [hb.cell (p := ⟨1, 0, none⟩) (block_lt hm)]; exact hm⟩

/-- A new row g of these strings. -/
def PartsPost (xs : List ByteArray) (w : World) (e : Ending) (w' : World) : Prop :=
  ∃ g, e = .returned (.slice (some ⟨g, 0, none⟩) xs.length xs.length) ∧ w'.heap[g]? = some (.cells (xs.map Value.string).toArray 9) ∧ w.heap.size ≤ g ∧ Below w.heap.size w w'

theorem impl_SplitByte (s : ByteArray) (b : UInt8) (hs : s.size < 4294967281) (w : World) (hm : MaxLenAt w) :
    Calls Tryz.prog 64 #[.string s, .int .u8 b.toNat] w (PartsPost (Cut.parts b s.data.toList) w) := by
  have hcv := conv_one w (b.toNat : Int) b rfl
  have hb1 : Below w.heap.size w (w.alloc (.cells #[.int .u8 b.toNat] 5)) := (Below.refl _ _).alloc (Nat.le_refl _) _
  obtain ⟨m, hm1⟩ := hm.below hb1
  have Hm := Lib.hid hm1
  have Hb := Lib.hid hb1
  have Hp := Lib.hid (Cut.splitB_parts b s)
  have Hl := Lib.hid (Cut.parts_length b s)
  clear hm1 hm hb1
  go_enter Tryz.func64, Tryz.ntmps64
  go_wp2_with fail
  refine (Tryz.strings_Split s ⟨#[b]⟩ m _ hs Hm.out (Nat.le_refl 1)).mono ?_
  rintro e w1 ⟨rfl, rfl⟩
  rw [Hp.out, ← Hl.out]
  go_wp2_with fail
  go_ret
  exact ⟨_, rfl, by rw [show w.heap.size + 1 = (w.alloc (.cells #[.int .u8 b.toNat] 5)).heap.size by simp]; exact heap_alloc_new _ _, by simp, (Hb.out.alloc (by simp) _)⟩
end Go.Proofs.YtambneapofaclaaGreatDoor
