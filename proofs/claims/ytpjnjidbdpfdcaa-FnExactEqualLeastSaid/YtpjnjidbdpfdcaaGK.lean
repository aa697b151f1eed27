/- The parts LkI, VeI, LkRow. -/
import Derived.Test.YtpjnjidbdpfdcaaNumI
import Derived.Test.YtpjnjidbdpfdcaaLkBase
import Derived.Test.YtpjnjidbdpfdcaaGVa
import Derived.Test.YtpjnjidbdpfdcaaGVb
import Derived.Test.YtpjnjidbdpfdcaaIntsLaw
import Derived.Test.YtpjnjidbdpfdcaaRow
set_option maxRecDepth 100000
namespace Go.Proofs.Ytpjnjidbdpfdcaa
open Go.RowKit
theorem OwnInts.same {B : Nat} {w w' : World} {v : Value} {xs : List Int} (h : OwnInts B w v xs) (hs : ∀ g, v.ownBlock = some g → w'.heap[g]? = w.heap[g]?) : OwnInts B w' v xs := by
 obtain ⟨h1, h2 | ⟨g, cap, cur, rfl, hg, hh, hr⟩⟩ := h
 ·
  exact ⟨h1, .inl h2⟩
 ·
  exact ⟨h1, .inr ⟨g, cap, cur, rfl, hg, (hs g rfl).trans hh, hr⟩⟩
theorem OwnInts.turned {lo hi B : Nat} {w w' : World} {v : Value} {xs : List Int} (h : OwnInts B w v xs) (ht : Turned lo hi w w') (hB : ∀ g, v.ownBlock = some g → g < lo ∨ hi ≤ g) : OwnInts B w' v xs :=
 h.same fun g hg => ht.block g (World.ownsRow.lt h g hg).2 (hB g hg)
set_option maxHeartbeats 400000 in
theorem laws_markIntS2 (B : Nat) (v : Value) (k : Nat) (xs : List Int) (hn : xs.length ≤ 2097152) (hk2 : k ≤ 8388608) (w : World) (h1 : OwnInts B w v xs) :
  Calls Try.prog 33 #[v, .int .i64 k] w (MarksPost B k v xs.length w) := by
 by_cases h0 : xs = []
 ·
  subst h0
  obtain ⟨a, cap, rfl, _, _, _⟩ := own_reads h1
  have H1 := zH h1
  clear h1
  go_enter Try.func33, Try.ntmps33
  go_wp2_with fail
  go_loop [1, 5] (fun q i => q = .int .i64 k ∧ i = .int .i64 0) (fun _ i => 5 - (intOf i).toNat)
  case atStart => exact ⟨rfl, rfl⟩
  case round =>
   obtain ⟨rfl, rfl⟩ := hrel
   go_wp2_with fail
   go_ret
   exact ⟨ret_int (by simp), H1.out, ⟨rfl, rfl, rfl, Nat.le_refl _, fun _ _ _ => rfl⟩⟩
 ·
  obtain ⟨a, cap, rfl, _, hab, hag⟩ := own_reads h1
  obtain ⟨g, rfl⟩ := hag h0
  have hgl := (hab _ rfl).2
  have H1 := zH h1
  clear h1 hab hag h0
  go_enter Try.func33, Try.ntmps33
  go_wp2_with fail
  go_loopw [1, 5] (fun q i wr => ∃ (j : Nat) (kk : Int), j ≤ xs.length ∧ 0 ≤ kk ∧ kk ≤ 16777216 ∧ q = .int .i64 kk ∧ i = .int .i64 j ∧ Hid (kk = (k : Int) + j) ∧ Hid (OwnInts B wr (.slice (some ⟨g, 0, none⟩) (marksI k j ++ xs.drop j).length cap) (marksI k j ++ xs.drop j)) ∧ Hid (w.grownBy wr (some g))) (fun _ i _ => xs.length - (intOf i).toNat)
  case atStart => exact ⟨0, k, Nat.zero_le _, by omega, by omega, rfl, rfl, (by show (k : Int) = k + (0 : Nat); omega), H1.out, ⟨rfl, rfl, rfl, Nat.le_refl _, fun _ _ _ => rfl⟩⟩
  case round =>
   obtain ⟨j, kk, hj, hq0, hq1, rfl, rfl, hkk, hR, hG⟩ := hrel
   by_cases hlt : j < xs.length
   ·
    have hbd : kk + 1 ≤ 16777216 := by have := hkk.out; omega
    have hle : (marksI k j ++ xs.drop j).length = xs.length := by rw [List.length_append, marksI_len, List.length_drop]; omega
    have c1 : ∃ x, wr.cell? ⟨g, j, none⟩ = some (.int .i64 x) := by
     have hj' : j < (marksI k j ++ xs.drop j).length := by omega
     rw [World.ownsRow.cellAt hR.out j (by omega), List.getElem?_map, List.getElem?_eq_getElem hj']
     exact ⟨_, rfl⟩
    have f1 : wr.frozen? ⟨g, j, none⟩ = false := World.ownsRow.frozenAt hR.out j
    obtain ⟨x, c1⟩ := c1
    have HR3 : Hid (OwnInts B (wr.setCell ⟨g, j, none⟩ (.int .i64 kk)) (.slice (some ⟨g, 0, none⟩) (marksI k (j + 1) ++ xs.drop (j + 1)).length cap) (marksI k (j + 1) ++ xs.drop (j + 1))) := by
     have h3 := own_set hR.out j kk
     rw [show kk = ((k + j : Nat) : Int) by have := hkk.out; omega] at h3 ⊢
     rw [marksI_set k j xs hlt] at h3
     exact h3
    have HG3 := zH (grown_set hG.out j (.int .i64 kk))
    have Hk2 : Hid (kk + 1 = (k : Int) + ((j + 1 : Nat) : Int)) := by
     have := hkk.out
     show _ = _
     omega
    clear hle
    go_wp2_with fail
    go_roundw
    case rel => exact ⟨j + 1, kk + 1, by omega, by omega, hbd, rfl, by go_num, Hk2, HR3, HG3⟩
    case measure => simp [intOf]; omega
   ·
    have he : j = xs.length := by omega
    have Hf : Hid (OwnInts B wr (.slice (some ⟨g, 0, none⟩) xs.length cap) (marksI k xs.length)) := by
     have h3 := hR.out
     rw [he, marksI_all, marksI_len] at h3
     exact h3
    have Hk2 : Hid (kk = (k : Int) + xs.length) := by rw [← he]; exact hkk
    clear he
    go_wp2_with fail
    go_ret
    exact ⟨ret_int Hk2.out, Hf, hG⟩

set_option maxHeartbeats 400000 in
theorem laws_heldIntS2 (a : Option Addr) (c k n : Nat) (hn : n ≤ 2097152) (hk2 : k ≤ 8388608) (w : World) (h1 : IntsIn w a (marksI k n)) :
  Calls Try.prog 37 #[.slice a n c, .int .i64 k] w fun e w' => e = .returned (.int .i64 ((k : Int) + n)) ∧ w = w' := by
 have H1 := zH h1
 clear h1
 go_enter Try.func37, Try.ntmps37
 go_wp2_with fail
 go_loop [1, 5] (fun q i => ∃ (j : Nat) (kk : Int), j ≤ n ∧ 0 ≤ kk ∧ kk ≤ 16777216 ∧ q = .int .i64 kk ∧ i = .int .i64 j ∧ Hid (kk = (k : Int) + j)) (fun _ i => n - (intOf i).toNat)
 case atStart => exact ⟨0, k, by omega, by omega, by omega, rfl, rfl, (by show (k : Int) = k + (0 : Nat); omega)⟩
 case round =>
  obtain ⟨j, kk, hj, hq0, hq1, rfl, rfl, hkk⟩ := hrel
  by_cases hlt : j < n
  ·
   have hbd : kk + 1 ≤ 16777216 := by have := hkk.out; omega
   obtain ⟨b, o, rfl, hx⟩ := H1.out j _ (marksI_at k n j hlt)
   rw [show ((k + j : Nat) : Int) = kk by have := hkk.out; omega] at hx
   have Hk2 : Hid (kk + 1 = (k : Int) + ((j + 1 : Nat) : Int)) := by
    have := hkk.out
    show _ = _
    omega
   go_wp2_with fail
   go_round
   case rel => exact ⟨j + 1, kk + 1, by omega, by omega, hbd, rfl, by go_num, Hk2⟩
   case measure => simp [intOf]; omega
  ·
   have he : Hid (kk = (k : Int) + n) := by
    have := hkk.out
    show _ = _
    rw [this]; omega
   go_wp2_with fail
   go_ret
   exact ⟨ret_int he.out, rfl⟩

def RowAtI (lo hi : Nat) (w : World) (u : Value) (xs : List Int) : Prop := ∃ (a : Option Addr) (c : Nat), u = .slice a xs.length c ∧ (xs.length ≠ 0 → OwnInts lo w u xs ∧ ∀ g, u.ownBlock = some g → g < hi)
def Blk (u : Value) (n b : Nat) : Prop := n ≠ 0 ∧ u.ownBlock = some b
theorem RowAtI.of_own {lo hi : Nat} {w : World} {u : Value} {xs : List Int} (h : OwnInts lo w u xs) (hb : ∀ g, u.ownBlock = some g → g < hi) : RowAtI lo hi w u xs := by
 obtain ⟨a, c, rfl, _⟩ := own_reads h
 exact ⟨a, c, rfl, fun _ => ⟨h, hb⟩⟩
theorem RowAtI.blk {lo hi : Nat} {w : World} {u : Value} {xs : List Int} (h : RowAtI lo hi w u xs) {b : Nat} (hb : Blk u xs.length b) : lo ≤ b ∧ b < hi ∧ b < w.heap.size := by
 obtain ⟨a, c, rfl, h2⟩ := h
 obtain ⟨h3, h4⟩ := h2 hb.1
 have := World.ownsRow.lt h3 b hb.2
 exact ⟨this.1, h4 b hb.2, this.2⟩
theorem RowAtI.same {lo hi : Nat} {w w' : World} {u : Value} {xs : List Int} (h : RowAtI lo hi w u xs) (hs : ∀ b, Blk u xs.length b → w'.heap[b]? = w.heap[b]?) : RowAtI lo hi w' u xs := by
 obtain ⟨a, c, rfl, h2⟩ := h
 exact ⟨a, c, rfl, fun hn => ⟨(h2 hn).1.same fun g hg => hs g ⟨hn, hg⟩, (h2 hn).2⟩⟩
theorem RowAtI.below {lo hi : Nat} {w w' : World} {u : Value} {xs : List Int} (h : RowAtI lo hi w u xs) (hb : Below w.heap.size w w') : RowAtI lo hi w' u xs := h.same fun b h1 => hb.block b (h.blk h1).2.2
theorem RowAtI.reads {lo hi : Nat} {w : World} {u : Value} {xs : List Int} (h : RowAtI lo hi w u xs) : ∃ (a : Option Addr) (c : Nat), u = .slice a xs.length c ∧ NumsIn hi w a xs := by
 obtain ⟨a, c, rfl, h2⟩ := h
 refine ⟨a, c, rfl, fun j hj => ?_⟩
 obtain ⟨h3, h4⟩ := h2 (by omega)
 obtain ⟨a', c', e, hr, hp, _⟩ := own_reads h3
 obtain ⟨rfl, rfl⟩ : a = a' ∧ c = c' := by injection e with e1 _ e3; exact ⟨e1, e3⟩
 exact NumsIn.of_ints (B := hi) hr (fun p hp => h4 p.block (by rw [hp]; rfl)) j hj
theorem mark_rowI (lo hi : Nat) (u : Value) (kk : Int) (k : Nat) (hkk : kk = k) (xs : List Int) (hn : xs.length ≤ 2097152) (hk2 : k ≤ 8388608) (w : World) (h : RowAtI lo hi w u xs) :
  Calls Try.prog 33 #[u, .int .i64 kk] w fun e w' => e = .returned (.int .i64 (kk + xs.length)) ∧ RowAtI lo hi w' u (marksI k xs.length) ∧ ∃ row, w.grownBy w' row ∧ ∀ b, row = some b → Blk u xs.length b := by
 obtain ⟨a, c, rfl, h2⟩ := h
 subst hkk
 by_cases h0 : xs.length = 0
 ·
  have hx : xs = [] := List.eq_nil_of_length_eq_zero h0
  subst hx
  clear h2
  go_enter Try.func33, Try.ntmps33
  go_wp2_with fail
  go_loop [1, 5] (fun q i => q = .int .i64 k ∧ i = .int .i64 0) (fun _ i => 5 - (intOf i).toNat)
  case atStart => exact ⟨rfl, rfl⟩
  case round =>
   obtain ⟨rfl, rfl⟩ := hrel
   go_wp2_with fail
   go_ret
   exact ⟨ret_int (by simp), ⟨a, c, by simp [marksI_len], fun hz => absurd (marksI_len k 0) hz⟩, none, ⟨rfl, rfl, rfl, Nat.le_refl _, fun _ _ _ => rfl⟩, fun b hb => by cases hb⟩
 ·
  obtain ⟨ho, hb⟩ := h2 h0
  refine (laws_markIntS2 lo _ k xs hn hk2 w ho).mono ?_
  rintro e w' ⟨rfl, h3, h4⟩
  exact ⟨rfl, ⟨a, c, by rw [marksI_len], fun _ => ⟨h3, hb⟩⟩, _, h4, fun b e => ⟨h0, e⟩⟩
theorem RowAtI.turned {lo hi l2 h2 : Nat} {w w' : World} {u : Value} {xs : List Int} (h : RowAtI lo hi w u xs) (ht : Turned l2 h2 w w') (ha : hi ≤ l2 ∨ h2 ≤ lo) : RowAtI lo hi w' u xs := h.same fun b hb => by
 have := h.blk hb
 exact ht.block b this.2.2 (by omega)
theorem OwnInts.raise2 {B B' : Nat} {w : World} {v : Value} {xs : List Int} (h : OwnInts B w v xs) (hB : B' ≤ B) : OwnInts B' w v xs := by
 obtain ⟨h1, h2 | ⟨g, cap, cur, e, hg, rest⟩⟩ := h
 ·
  exact ⟨h1, .inl h2⟩
 ·
  exact ⟨h1, .inr ⟨g, cap, cur, e, by omega, rest⟩⟩
theorem RowAtI.wider {lo hi lo' hi' : Nat} {w : World} {u : Value} {xs : List Int} (h : RowAtI lo hi w u xs) (h1 : lo' ≤ lo) (h2 : hi ≤ hi') : RowAtI lo' hi' w u xs := by
 obtain ⟨a, c, rfl, k⟩ := h
 exact ⟨a, c, rfl, fun hn => ⟨(k hn).1.raise2 h1, fun g hg => Nat.lt_of_lt_of_le ((k hn).2 g hg) h2⟩⟩
def SzR (n : Nat) (left : Int) (w : World) (e : Ending) (w' : World) : Prop :=
 ∃ r : Int, e = .returned (.int .i64 r) ∧ -1 ≤ r ∧ r ≤ 1048576 ∧ (0 ≤ r → (n : Int) + r = left) ∧ w = w'
theorem szI (a : Option Addr) (len cap : Nat) (left : Int) (hm : len ≤ 9223372036854775807) (hl0 : 0 ≤ left) (hl1 : left ≤ 1048576) (w : World) :
  Calls Try.prog 19 #[.slice a len cap, .int .i64 left] w (SzR len left w) := by
 rcases Int.lt_or_le left len with hl | hl
 ·
  have hb : decide (left - (len : Int) < 0) = true := by rw [decide_eq_true_iff]; omega
  go_enter Try.func19, Try.ntmps19
  go_wp2_with fail
  go_ret
  exact ⟨-1, rfl, by omega, by omega, fun h => by omega, rfl⟩
 ·
  have hb : decide (left - (len : Int) < 0) = false := by rw [decide_eq_false_iff_not]; omega
  go_enter Try.func19, Try.ntmps19
  go_wp2_with fail
  go_ret
  exact ⟨left - len, rfl, by omega, by omega, fun h => by omega, rfl⟩
end Go.Proofs.Ytpjnjidbdpfdcaa

namespace Go.Proofs.Ytpjnjidbdpfdcaa
open Go.RowKit
open Ve (R)
end Go.Proofs.Ytpjnjidbdpfdcaa

namespace Go.Proofs.Ytpjnjidbdpfdcaa
open Go.RowKit
open Ve (R)
theorem OwnRats.same {B : Nat} {w w' : World} {v : Value} {xs : List R} (h : OwnRats B w v xs) (hs : ∀ g, v.ownBlock = some g → w'.heap[g]? = w.heap[g]?) : OwnRats B w' v xs := by
 obtain ⟨h1, h2 | ⟨g, cap, cur, rfl, hg, hh, hr⟩⟩ := h
 ·
  exact ⟨h1, .inl h2⟩
 ·
  exact ⟨h1, .inr ⟨g, cap, cur, rfl, hg, (hs g rfl).trans hh, hr⟩⟩
theorem OwnRats.turned {lo hi B : Nat} {w w' : World} {v : Value} {xs : List R} (h : OwnRats B w v xs) (ht : Turned lo hi w w') (hB : ∀ g, v.ownBlock = some g → g < lo ∨ hi ≤ g) : OwnRats B w' v xs :=
 h.same fun g hg => ht.block g (World.ownsRow.lt h g hg).2 (hB g hg)
theorem OwnRats.raise {B B' : Nat} {w : World} {v : Value} {xs : List R} (h : OwnRats B w v xs) (hB : B' ≤ B) : OwnRats B' w v xs := by
 obtain ⟨h1, h2 | ⟨g, cap, cur, e, hg, rest⟩⟩ := h
 ·
  exact ⟨h1, .inl h2⟩
 ·
  exact ⟨h1, .inr ⟨g, cap, cur, e, by omega, rest⟩⟩
/-! ### A row: of the call's own, in a block from lo to hi - 1, or empty -/
def RowAt (lo hi : Nat) (w : World) (u : Value) (xs : List R) : Prop := ∃ (a : Option Addr) (c : Nat), u = .slice a xs.length c ∧ (xs.length ≠ 0 → OwnRats lo w u xs ∧ ∀ g, u.ownBlock = some g → g < hi)
theorem RowAt.of_own {lo hi : Nat} {w : World} {u : Value} {xs : List R} (h : OwnRats lo w u xs) (hb : ∀ g, u.ownBlock = some g → g < hi) : RowAt lo hi w u xs := by
 obtain ⟨a, c, rfl, _⟩ := own_rats h
 exact ⟨a, c, rfl, fun _ => ⟨h, hb⟩⟩
theorem RowAt.blk {lo hi : Nat} {w : World} {u : Value} {xs : List R} (h : RowAt lo hi w u xs) {b : Nat} (hb : Blk u xs.length b) : lo ≤ b ∧ b < hi ∧ b < w.heap.size := by
 obtain ⟨a, c, rfl, h2⟩ := h
 obtain ⟨h3, h4⟩ := h2 hb.1
 have := World.ownsRow.lt h3 b hb.2
 exact ⟨this.1, h4 b hb.2, this.2⟩
theorem RowAt.same {lo hi : Nat} {w w' : World} {u : Value} {xs : List R} (h : RowAt lo hi w u xs) (hs : ∀ b, Blk u xs.length b → w'.heap[b]? = w.heap[b]?) : RowAt lo hi w' u xs := by
 obtain ⟨a, c, rfl, h2⟩ := h
 exact ⟨a, c, rfl, fun hn => ⟨(h2 hn).1.same fun g hg => hs g ⟨hn, hg⟩, (h2 hn).2⟩⟩
theorem RowAt.below {lo hi : Nat} {w w' : World} {u : Value} {xs : List R} (h : RowAt lo hi w u xs) (hb : Below w.heap.size w w') : RowAt lo hi w' u xs := h.same fun b h1 => hb.block b (h.blk h1).2.2
theorem RowAt.reads {lo hi : Nat} {w : World} {u : Value} {xs : List R} (h : RowAt lo hi w u xs) : ∃ (a : Option Addr) (c : Nat), u = .slice a xs.length c ∧ RatsIn hi w a xs := by
 obtain ⟨a, c, rfl, h2⟩ := h
 refine ⟨a, c, rfl, fun j x hx => ?_⟩
 have hn : xs.length ≠ 0 := by have := (List.getElem?_eq_some_iff.1 hx).1; omega
 obtain ⟨h3, h4⟩ := h2 hn
 obtain ⟨a', c', e, hr, _⟩ := own_rats h3
 obtain ⟨rfl, rfl⟩ : a = a' ∧ c = c' := by injection e with e1 _ e3; exact ⟨e1, e3⟩
 exact (hr.narrow fun p hp => h4 p.block (by rw [hp]; rfl)) j x hx
theorem mark_row (lo hi : Nat) (u : Value) (kk : Int) (k : Nat) (hkk : kk = k) (xs : List R) (hn : xs.length ≤ 2097152) (hk2 : k ≤ 8388608) (w : World) (h : RowAt lo hi w u xs) :
  Calls Try.prog 35 #[u, .int .i64 kk] w fun e w' => e = .returned (.int .i64 (kk + 2 * xs.length)) ∧ RowAt lo hi w' u (marksR k xs.length) ∧ ∃ row, w.grownBy w' row ∧ ∀ b, row = some b → Blk u xs.length b := by
 obtain ⟨a, c, rfl, h2⟩ := h
 by_cases h0 : xs.length = 0
 ·
  have hx : xs = [] := List.eq_nil_of_length_eq_zero h0
  subst hx
  subst hkk
  clear h2
  go_enter Try.func35, Try.ntmps35
  go_wp2_with fail
  go_loop [1, 5] (fun q i => q = .int .i64 k ∧ i = .int .i64 0) (fun _ i => 5 - (intOf i).toNat)
  case atStart => exact ⟨rfl, rfl⟩
  case round =>
   obtain ⟨rfl, rfl⟩ := hrel
   go_wp2_with fail
   go_ret
   exact ⟨ret_int (by simp), ⟨a, c, by simp [marksR_len], fun hz => absurd (marksR_len k 0) hz⟩, none, ⟨rfl, rfl, rfl, Nat.le_refl _, fun _ _ _ => rfl⟩, fun b hb => by cases hb⟩
 ·
  obtain ⟨ho, hb⟩ := h2 h0
  refine (laws_markFrom lo _ kk k hkk xs hn hk2 w ho).mono ?_
  rintro e w' ⟨rfl, h3, h4⟩
  exact ⟨rfl, ⟨a, c, by rw [marksR_len], fun _ => ⟨h3, hb⟩⟩, _, h4, fun b e => ⟨h0, e⟩⟩
theorem RowAt.wider {lo hi lo' hi' : Nat} {w : World} {u : Value} {xs : List R} (h : RowAt lo hi w u xs) (h1 : lo' ≤ lo) (h2 : hi ≤ hi') : RowAt lo' hi' w u xs := by
 obtain ⟨a, c, rfl, k⟩ := h
 exact ⟨a, c, rfl, fun hn => ⟨(k hn).1.raise h1, fun g hg => Nat.lt_of_lt_of_le ((k hn).2 g hg) h2⟩⟩
theorem RowAt.turned {lo hi l2 h2 : Nat} {w w' : World} {u : Value} {xs : List R} (h : RowAt lo hi w u xs) (ht : Turned l2 h2 w w') (ha : hi ≤ l2 ∨ h2 ≤ lo) : RowAt lo hi w' u xs := h.same fun b hb => by
 have := h.blk hb
 exact ht.block b this.2.2 (by omega)
theorem szR (a : Option Addr) (len cap : Nat) (left : Int) (hm : len ≤ 9223372036854775807) (hl0 : 0 ≤ left) (hl1 : left ≤ 1048576) (w : World) :
  Calls Try.prog 39 #[.slice a len cap, .int .i64 left] w (SzR len left w) := by
 rcases Int.lt_or_le left len with hl | hl
 ·
  refine (sz_no a len cap left hl hm hl0 hl1 w).mono ?_
  rintro e w1 ⟨rfl, rfl⟩
  exact ⟨-1, rfl, by omega, by omega, fun h => by omega, rfl⟩
 ·
  refine (sz_ok a len cap left hl hl1 w).mono ?_
  rintro e w1 ⟨rfl, rfl⟩
  exact ⟨left - len, rfl, by omega, by omega, fun h => by omega, rfl⟩
end Go.Proofs.Ytpjnjidbdpfdcaa
