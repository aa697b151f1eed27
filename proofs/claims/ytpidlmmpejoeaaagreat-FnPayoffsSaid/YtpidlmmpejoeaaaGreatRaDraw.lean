/- The draws of chapter 3: whatever the code, a pair of numbers (or two) is drawn; the cursor goes on; nothing else that was there turns. -/
import Derived.Test.YtpidlmmpejoeaaaGreatDrI
import Derived.Test.YtpidlmmpejoeaaaGreatDrawA
import Derived.Test.YtpidlmmpejoeaaaGreatGRa
import Derived.Test.YtpidlmmpejoeaaaGreatGB
namespace Go.Proofs.YtpidlmmpejoeaaaGreat
open Go.RowKit

theorem Only.of_below {p : Nat} {w w' : World} (h : Below w.heap.size w w') (hp : p ≤ w.heap.size) : Only p w w' := ⟨h.mono hp, fun j _ h2 => h.block j h2⟩
theorem Cur.below {w w' : World} {p : Nat} {a : Option Addr} {len cap : Nat} (h : Cur w p a len cap) (hb : Below w.heap.size w w') : Cur w' p a len cap := by
 obtain ⟨i, x, h1, h2, hk⟩ := h
 exact ⟨i, x, h1, h2, by rw [hb.block p (lt_of_block hk)]; exact hk⟩
theorem Cur.setOwn {w : World} {p k : Nat} {a : Option Addr} {len cap : Nat} (h : Cur w p a len cap) (hk : p ≠ k) (o : Nat) (u : Value) : Cur (w.setCell ⟨k, o, none⟩ u) p a len cap := by
 obtain ⟨i, x, h1, h2, hb⟩ := h
 exact ⟨i, x, h1, h2, by rw [Below.heap_setCell _ _ _ _ hk]; exact hb⟩
def DrewRat (p : Nat) (a : Option Addr) (len cap : Nat) (w : World) (e : Ending) (w' : World) : Prop :=
 ∃ n d : Int, e = .returned (.agg #[.int .i64 n, .int .i64 d]) ∧ Cur w' p a len cap ∧ Only p w w'

def rawN : List Int := [0, 1, 2, -1, 3, -7, 12, 999999999, -1000000000]
def rawD : List Int := [1, 1, 2, 3, 7, 1000000000, 999999937]
def oddN : List Int := [0, 2, 1000000001]
def oddD : List Int := [0, 2, -1, 1]
theorem rawN_cells : (rawN.map (Value.int .i64)).toArray = #[.int .i64 0, .int .i64 1, .int .i64 2, .int .i64 (-1), .int .i64 3, .int .i64 (-7), .int .i64 12, .int .i64 999999999, .int .i64 (-1000000000)] := rfl
theorem rawD_cells : (rawD.map (Value.int .i64)).toArray = #[.int .i64 1, .int .i64 1, .int .i64 2, .int .i64 3, .int .i64 7, .int .i64 1000000000, .int .i64 999999937] := rfl
theorem oddN_cells : (oddN.map (Value.int .i64)).toArray = #[.int .i64 0, .int .i64 2, .int .i64 1000000001] := rfl
theorem oddD_cells : (oddD.map (Value.int .i64)).toArray = #[.int .i64 0, .int .i64 2, .int .i64 (-1), .int .i64 1] := rfl
def Picked (p : Nat) (a : Option Addr) (len cap : Nat) (w : World) (e : Ending) (w' : World) : Prop :=
 ∃ x : Int, e = .returned (.int .i64 x) ∧ Cur w' p a len cap ∧ Only p w w'
theorem pick_new (B p : Nat) (a : Option Addr) (len cap c2 : Nat) (ss : List Int) (cs : Array Value) (hcs : (ss.map (Value.int .i64)).toArray = cs) (m : Nat) (hm : ss.length = m) (hs1 : 1 ≤ ss.length) (hs2 : ss.length ≤ 1000000) (w : World) (hB : B ≤ p)
  (hcur : Cur w p a len cap) (hcode : CodeAt B w a len) (q : Nat) (hq : q = w.heap.size) :
  Calls Tryz.prog 74 #[.pointer (some ⟨p, 0, none⟩), .slice (some ⟨q, 0, none⟩) m c2] (w.alloc (.cells cs 3)) (Picked p a len cap w) := by
 subst hcs hm hq
 have hp := hcur.lt
 refine (spec_l1PickInt B p w.heap.size a len cap c2 ss hs1 hs2 _ hB (by omega) (by rw [size1]; omega) (ListAt.new w _ _) (hcur.alloc _) (hcode.below ((Below.refl _ _).alloc (by omega) _))).mono ?_
 rintro e w' ⟨v, rfl, hv, hc, ho⟩
 obtain ⟨x, _, rfl⟩ := List.mem_map.1 hv
 exact ⟨x, rfl, hc, ((Only.refl p w).alloc (by omega) _).trans ho⟩

set_option maxRecDepth 100000 in
set_option maxHeartbeats 2000000 in
theorem spec_l3Draw (B p : Nat) (a : Option Addr) (len cap : Nat) (w : World) (hB : B ≤ p) (hcur : Cur w p a len cap) (hcode : CodeAt B w a len) :
  Calls Tryz.prog 65 #[.pointer (some ⟨p, 0, none⟩)] w (DrewRat p a len cap w) := by
 have hp := hcur.lt
 have hn : (w.alloc (.cells #[.int .i64 0, .int .i64 0] 32)).heap[w.heap.size]? = some (.cells #[.int .i64 0, .int .i64 0] 32) := new_at w _
 have Hc := zH (hcode.below ((Below.refl B w).alloc (by omega) (.cells #[.int .i64 0, .int .i64 0] 32)))
 have Hu := zH (hcur.alloc (.cells #[.int .i64 0, .int .i64 0] 32))
 have Ho := zH ((Only.refl p w).alloc (by omega) (.cells #[.int .i64 0, .int .i64 0] 32))
 have Hn := zH hn
 have Hs := zH (size1 w (.cells #[.int .i64 0, .int .i64 0] 32))
 clear hcur hcode hn
 go_enter Tryz.func65, Tryz.ntmps65
 go_wp2_with fail
 refine (pick_new B p a len cap 9 rawN _ rawN_cells 9 rfl (by decide) (by decide) _ hB Hu.out Hc.out _ (by simp)).mono ?_
 rintro e w1 ⟨x, rfl, hc1, ho1⟩
 have Hc1 := zH (Hc.out.below (ho1.below hB))
 have Ho1 := zH (Ho.out.trans ho1)
 have Hu1 := zH hc1
 have Hn1 := zH (show w1.heap[w.heap.size]? = _ from (ho1.block (by omega) (by rw [Hs.out]; omega)).trans Hn.out)
 clear hc1 ho1 Hc Ho Hn Hu Hs
 go_wp2_with fail
 refine (pick_new B p a len cap 7 rawD _ rawD_cells 7 rfl (by decide) (by decide) _ hB Hu1.out Hc1.out _ (by simp)).mono ?_
 rintro e w2 ⟨y, rfl, hc2, ho2⟩
 have Hc2 := zH (Hc1.out.below (ho2.below hB))
 have Ho2 := zH (Ho1.out.trans ho2)
 have Hu2 := zH hc2
 have Hn2 := zH ((ho2.block (by omega) (lt_of_at Hn1.out)).trans Hn1.out)
 clear hc2 ho2 Hc1 Ho1 Hn1 Hu1
 go_wp2_with fail
 refine (spec_RatOf x y _).mono ?_
 rintro e w3 ⟨rfl, hb3⟩
 generalize Ra.rn x y = N
 generalize Ra.rd x y = D
 generalize Ra.fits x y = k
 have hz2 : p ≤ w2.heap.size := by have := Hu2.out.lt; omega
 have Hc3 := zH ((Hc2.out.below (hb3.mono (by omega))).below ((Below.refl B w3).alloc (by have := hb3.size; omega) (.cells #[.int .i64 N, .int .i64 D] 32)))
 have Hu3 := zH ((Hu2.out.below hb3).alloc (.cells #[.int .i64 N, .int .i64 D] 32))
 have Ho3 := zH ((Ho2.out.trans (Only.of_below hb3 hz2)).alloc (by omega) (.cells #[.int .i64 N, .int .i64 D] 32))
 have Hn3 := zH (show (w3.alloc (.cells #[.int .i64 N, .int .i64 D] 32)).heap[w.heap.size]? = some (.cells #[.int .i64 0, .int .i64 0] 32) by
  have h1 := (hb3.block w.heap.size (lt_of_at Hn2.out)).trans Hn2.out
  rw [Below.heap_alloc _ _ _ (lt_of_at h1)]; exact h1)
 have Hm3 := zH (new_at w3 (.cells #[.int .i64 N, .int .i64 D] 32))
 have Hl3 := zH (show w.heap.size < w3.heap.size from lt_of_at ((hb3.block w.heap.size (lt_of_at Hn2.out)).trans Hn2.out))
 clear hb3 Hc2 Ho2 Hn2 Hu2 hz2
 go_wp2_with fail
 refine (spec_l1Once B p a len cap 12 (by decide) (by decide) _ hB Hu3.out Hc3.out).mono ?_
 rintro e w4 ⟨bb, rfl, hc4, ho4⟩
 have Hu4 := zH hc4
 have Ho4 := zH (Ho3.out.trans ho4)
 have Hc4 := zH (Hc3.out.below (ho4.below hB))
 have Hn4 := zH ((ho4.block (by omega) (lt_of_at Hn3.out)).trans Hn3.out)
 have Hm4 := zH ((ho4.block (by have := Hl3.out; omega) (lt_of_at Hm3.out)).trans Hm3.out)
 clear hc4 ho4 Hu3 Ho3 Hc3 Hn3 Hm3
 cases bb with
 | false =>
  obtain ⟨n0, n1, f0, f1⟩ := cells2_of Hn4.out
  obtain ⟨m0, m1, _, _⟩ := cells2_of Hm4.out
  go_wp2_with fail
  exact bodyPost_ret (v := .agg #[.int .i64 N, .int .i64 D]) (by simp [results, Tryz.results65, go_sem, (pair_set n0 n1).1, (pair_set n0 n1).2]) rfl ⟨N, D, rfl, (Hu4.out.setOwn (by omega) 0 _).setOwn (by omega) 1 _, (Ho4.out.setOwn (by omega) (Nat.le_refl _) 0 _).setOwn (by omega) (Nat.le_refl _) 1 _⟩
 | true =>
  clear Hm4
  go_wp2_with fail
  refine (pick_new B p a len cap 3 oddN _ oddN_cells 3 rfl (by decide) (by decide) _ hB Hu4.out Hc4.out _ (by simp)).mono ?_
  rintro e w5 ⟨x2, rfl, hc5, ho5⟩
  have Hc5 := zH (Hc4.out.below (ho5.below hB))
  have Ho5 := zH (Ho4.out.trans ho5)
  have Hu5 := zH hc5
  have Hn5 := zH ((ho5.block (by omega) (lt_of_at Hn4.out)).trans Hn4.out)
  clear hc5 ho5 Hc4 Ho4 Hn4 Hu4
  go_wp2_with fail
  refine (pick_new B p a len cap 4 oddD _ oddD_cells 4 rfl (by decide) (by decide) _ hB Hu5.out Hc5.out _ (by simp)).mono ?_
  rintro e w6 ⟨y2, rfl, hc6, ho6⟩
  have Ho6 := zH (Ho5.out.trans ho6)
  have Hu6 := zH hc6
  have Hn6 := zH ((ho6.block (by omega) (lt_of_at Hn5.out)).trans Hn5.out)
  clear hc6 ho6 Hc5 Ho5 Hn5 Hu5
  obtain ⟨n0, n1, f0, f1⟩ := cells2_of Hn6.out
  go_wp2_with fail
  exact bodyPost_ret (v := .agg #[.int .i64 x2, .int .i64 y2]) (by simp [results, Tryz.results65, go_sem, (pair_set n0 n1).1, (pair_set n0 n1).2]) rfl ⟨x2, y2, rfl, (Hu6.out.setOwn (by omega) 0 _).setOwn (by omega) 1 _, (Ho6.out.setOwn (by omega) (Nat.le_refl _) 0 _).setOwn (by omega) (Nat.le_refl _) 1 _⟩
end Go.Proofs.YtpidlmmpejoeaaaGreat
