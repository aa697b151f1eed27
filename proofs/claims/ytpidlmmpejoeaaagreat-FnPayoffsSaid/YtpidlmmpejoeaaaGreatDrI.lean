/- The cursor beside slices of ints: words for draws. -/
import Derived.Test.YtpidlmmpejoeaaaGreatDrawA
import Derived.Test.YtpidlmmpejoeaaaGreatGK
namespace Go.Proofs.YtpidlmmpejoeaaaGreat
open Go.RowKit
theorem Cur.grown {w w' : World} {p : Nat} {a : Option Addr} {len cap : Nat} {row : Option Nat} (h : Cur w p a len cap) (hg : w.grownBy w' row) (hr : row ≠ some p) : Cur w' p a len cap := by
 obtain ⟨i, x, h1, h2, hk⟩ := h
 exact ⟨i, x, h1, h2, (hg.block p (lt_of_block hk) (fun e => hr e.symm)).trans hk⟩
theorem OwnInts.only {B p : Nat} {w w' : World} {v : Value} {xs : List Int} (h : OwnInts B w v xs) (ho : Only p w w') (hp : p < B) : OwnInts B w' v xs := by
 obtain ⟨h1, h2 | ⟨g, cap, cur, e, hg, hh, rest⟩⟩ := h
 ·
  exact ⟨h1, .inl h2⟩
 ·
  exact ⟨h1, .inr ⟨g, cap, cur, e, hg, (ho.block (by omega) (lt_of_at hh)).trans hh, rest⟩⟩
def PickedIn (ss : List Int) (p : Nat) (a : Option Addr) (len cap : Nat) (w : World) (e : Ending) (w' : World) : Prop :=
 ∃ x : Int, e = .returned (.int .i64 x) ∧ x ∈ ss ∧ Cur w' p a len cap ∧ Only p w w'
theorem pick_in (B p : Nat) (a : Option Addr) (len cap c2 : Nat) (ss : List Int) (cs : Array Value) (hcs : (ss.map (Value.int .i64)).toArray = cs) (m : Nat) (hm : ss.length = m) (hs1 : 1 ≤ ss.length) (hs2 : ss.length ≤ 1000000) (w : World) (hB : B ≤ p)
  (hcur : Cur w p a len cap) (hcode : CodeAt B w a len) (q : Nat) (hq : q = w.heap.size) :
  Calls Tryz.prog 74 #[.pointer (some ⟨p, 0, none⟩), .slice (some ⟨q, 0, none⟩) m c2] (w.alloc (.cells cs 3)) (PickedIn ss p a len cap w) := by
 subst hcs hm hq
 have hp := hcur.lt
 refine (spec_l1PickInt B p w.heap.size a len cap c2 ss hs1 hs2 _ hB (by omega) (by rw [size1]; omega) (ListAt.new w _ _) (hcur.alloc _) (hcode.below ((Below.refl _ _).alloc (by omega) _))).mono ?_
 rintro e w' ⟨v, rfl, hv, hc, ho⟩
 obtain ⟨x, hx, rfl⟩ := List.mem_map.1 hv
 exact ⟨x, rfl, hx, hc, ((Only.refl p w).alloc (by omega) _).trans ho⟩
theorem Only.cell {p : Nat} {w w' : World} (h : Only p w w') {a : Addr} {v : Value} (hne : a.block ≠ p) (hv : w.cell? a = some v) : w'.cell? a = some v := by
 rw [World.cell?_of_block (w := w) (a := a) (h.block hne (block_lt_of_cell hv))]
 exact hv
theorem CellsAt.only {w w' : World} {p q : Nat} {cs : Array Value} {t : TypeId} (h : CellsAt w q cs t) (ho : Only p w w') (hne : q ≠ p) : CellsAt w' q cs t := (ho.block hne (lt_of_at h)).trans h
theorem Only.turned {p : Nat} {w w' : World} (h : Only p w w') : Turned p (p + 1) w w' := ⟨h.low.os, h.low.tape, h.low.output, h.low.size, fun k hk hr => h.block (by omega) hk⟩
end Go.Proofs.YtpidlmmpejoeaaaGreat
