/- The table of powers of ten that strconv reads: what hangs on it, carried on. -/
import Derived.Test.YtambneapofaclaaGreatDoorIntF
import Derived.Test.YtambneapofaclaaGreatDoorGB
import Derived.Test.YtambneapofaclaaGreatDoorLkBase
namespace Go.Proofs.YtambneapofaclaaGreatDoor
open Go.RowKit

theorem ret_str {a b : ByteArray} (h : a = b) : Ending.returned (.string a) = .returned (.string b) := by rw [h]
def PowAt (w : World) : Prop := Lib.TabIs Tryz.prog w "internal/strconv.uint64pow10" .u64 Lib.pow10Tab
theorem PowAt.below {w w' : World} (h : PowAt w) (hb : Below w.heap.size w w') : PowAt w' := Joins.var_stays gPow h hb (Nat.le_refl _)
theorem PowAt.alloc {w : World} (h : PowAt w) (o : Obj) : PowAt (w.alloc o) := h.below ((Below.refl _ _).alloc (Nat.le_refl _) o)
theorem PowAt.since {B w : World} (h : PowAt B) (hb : Since B w) : PowAt w := h.below hb.low
theorem PowAt.rg {w : World} (h : PowAt w) : Rg (fun w' => PowAt w') 0 w.heap.size w :=
  ⟨h, Nat.le_refl _, fun w' _ hk => by
    unfold PowAt Lib.TabIs World.var? at h ⊢
    rw [gPow] at h ⊢
    simp only [Option.bind_some] at h ⊢
    have hlt : 2 < w.heap.size := by
      rcases Nat.lt_or_ge 2 w.heap.size with h' | h'
      · exact h'
      · rw [Array.getElem?_eq_none h'] at h; cases h
    rw [hk _ (Nat.zero_le _) hlt]
    exact h⟩
end Go.Proofs.YtambneapofaclaaGreatDoor
