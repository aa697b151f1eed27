/- laws.eqIntS, markIntS, heldIntS: rows of integers compared, marked, and found as marked. -/
import Derived.Test.YtpjnjidbdpfdcaaGB
import Derived.Test.YtpjnjidbdpfdcaaCoA
set_option maxRecDepth 100000
namespace Go.Proofs.Ytpjnjidbdpfdcaa
open Go.RowKit

def DrawnT (w : World) (e : Ending) (w' : World) : Prop := e = .returned (.bool true) ∧ ∃ d, w' = w.drewN d
set_option maxHeartbeats 400000 in
theorem laws_eqIntS (a1 a2 : Option Addr) (c1 c2 : Nat) (xs : List Int) (hn : xs.length ≤ 1099511627776) (w : World) (h1 : IntsIn w a1 xs) (h2 : IntsIn w a2 xs) :
  Calls Try.prog 31 #[.slice a1 xs.length c1, .slice a2 xs.length c2] w (DrawnT w) := by
 have H1 := Lib.hid h1
 have H2 := Lib.hid h2
 clear h1 h2
 go_enter Try.func31, Try.ntmps31
 go_wp2_with fail
 go_loopw [5] (fun i wr => ∃ k : Nat, k ≤ xs.length ∧ i = .int .i64 k ∧ Hid (∃ d, wr = w.drewN d)) (fun i _ => xs.length - (intOf i).toNat)
 case atStart => exact ⟨0, Nat.zero_le _, rfl, ⟨0, rfl⟩⟩
 case round =>
  obtain ⟨k, hk, rfl, hD⟩ := hrel
  by_cases hlt : k < xs.length
  ·
   have g1 : IntsIn wr a1 xs := by obtain ⟨d, rfl⟩ := hD.out; exact H1.out
   have g2 : IntsIn wr a2 xs := by obtain ⟨d, rfl⟩ := hD.out; exact H2.out
   obtain ⟨b1, o1, rfl, g1⟩ := g1.at k hlt
   obtain ⟨b2, o2, rfl, g2⟩ := g2.at k hlt
   go_wp2_with fail
   go_quiet (fail)
   go_wp2_with fail
   go_roundw
   case rel => exact ⟨k + 1, by omega, by go_num, by obtain ⟨d, rfl⟩ := hD.out; exact ⟨d + nq, by simp [Nat.add_comm]⟩⟩
   case measure => simp [intOf]; omega
  ·
   go_wp2_with fail
   go_ret
   exact ⟨rfl, hD⟩

def marksI (k n : Nat) : List Int := (List.range n).map fun j => ((k + j : Nat) : Int)
theorem marksI_len (k n : Nat) : (marksI k n).length = n := by simp [marksI]
theorem marksI_at (k n j : Nat) (h : j < n) : (marksI k n)[j]? = some ((k + j : Nat) : Int) := by simp [marksI, h]
theorem marksI_set (k j : Nat) (xs : List Int) (hj : j < xs.length) : (marksI k j ++ xs.drop j).set j ((k + j : Nat) : Int) = marksI k (j + 1) ++ xs.drop (j + 1) := by
 have hl := marksI_len k j
 rw [List.set_append_right _ _ (by omega), hl, Nat.sub_self, List.drop_eq_getElem_cons hj]
 have e : marksI k (j + 1) = marksI k j ++ [((k + j : Nat) : Int)] := by unfold marksI; rw [List.range_succ, List.map_append]; rfl
 rw [e]
 simp only [List.set_cons_zero, List.append_assoc, List.cons_append, List.nil_append]
theorem marksI_all (k : Nat) (xs : List Int) : marksI k xs.length ++ xs.drop xs.length = marksI k xs.length := by simp
def MarksPost (B k : Nat) (v : Value) (n : Nat) (w : World) (e : Ending) (w' : World) : Prop :=
 e = .returned (.int .i64 ((k : Int) + n)) ∧ OwnInts B w' v (marksI k n) ∧ w.grownBy w' v.ownBlock
theorem own_set {B g cap : Nat} {w : World} {xs : List Int} (h : OwnInts B w (.slice (some ⟨g, 0, none⟩) xs.length cap) xs) (j : Nat) (x : Int) : OwnInts B (w.setCell ⟨g, j, none⟩ (.int .i64 x)) (.slice (some ⟨g, 0, none⟩) (xs.set j x).length cap) (xs.set j x) := by
 have := World.ownsRow.stored h j (.int .i64 x)
 unfold OwnInts
 rw [List.length_set, List.map_set]
 exact this.1
theorem grown_set {w a : World} {g : Nat} (h : w.grownBy a (some g)) (j : Nat) (u : Value) : w.grownBy (a.setCell ⟨g, j, none⟩ u) (some g) :=
 ⟨h.os, h.tape, h.output, by have := h.size; simp; omega, fun k hk hne => by
  rw [Below.heap_setCell _ _ _ _ (show k ≠ g from fun e => hne (by rw [e]))]; exact h.block k hk hne⟩
set_option maxHeartbeats 400000 in
theorem laws_markIntS (B : Nat) (v : Value) (k : Nat) (xs : List Int) (hn : xs.length ≤ 2097152) (hk2 : k ≤ 1048576) (w : World) (h1 : OwnInts B w v xs) :
  Calls Try.prog 33 #[v, .int .i64 k] w (MarksPost B k v xs.length w) := by
 by_cases h0 : xs = []
 ·
  subst h0
  obtain ⟨a, cap, rfl, _, _, _⟩ := own_reads h1
  have H1 := Lib.hid h1
  clear h1
  go_enter Try.func33, Try.ntmps33
  go_wp2_with fail
  go_loop [1, 5] (fun q i => q = .int .i64 k ∧ i = .int .i64 0) (fun _ i => 5 - (intOf i).toNat)
  case atStart => exact ⟨rfl, rfl⟩
  case round =>
   obtain ⟨rfl, rfl⟩ := hrel
   go_wp2_with fail
   go_ret
   exact ⟨ret_int (by simp), H1.out, ⟨rfl, rfl, rfl, Nat.le_refl _, fun _ _ _ => rfl⟩⟩
 ·
  obtain ⟨a, cap, rfl, _, hab, hag⟩ := own_reads h1
  obtain ⟨g, rfl⟩ := hag h0
  have hgl := (hab _ rfl).2
  have H1 := Lib.hid h1
  clear h1 hab hag h0
  go_enter Try.func33, Try.ntmps33
  go_wp2_with fail
  go_loopw [1, 5] (fun q i wr => ∃ (j : Nat) (kk : Int), j ≤ xs.length ∧ 0 ≤ kk ∧ kk ≤ 4194304 ∧ q = .int .i64 kk ∧ i = .int .i64 j ∧ Hid (kk = (k : Int) + j) ∧ Hid (OwnInts B wr (.slice (some ⟨g, 0, none⟩) (marksI k j ++ xs.drop j).length cap) (marksI k j ++ xs.drop j)) ∧ Hid (w.grownBy wr (some g))) (fun _ i _ => xs.length - (intOf i).toNat)
  case atStart => exact ⟨0, k, Nat.zero_le _, by omega, by omega, rfl, rfl, (by show (k : Int) = k + (0 : Nat); omega), H1.out, ⟨rfl, rfl, rfl, Nat.le_refl _, fun _ _ _ => rfl⟩⟩
  case round =>
   obtain ⟨j, kk, hj, hq0, hq1, rfl, rfl, hkk, hR, hG⟩ := hrel
   by_cases hlt : j < xs.length
   ·
    have hbd : kk + 1 ≤ 4194304 := by have := hkk.out; omega
    have hle : (marksI k j ++ xs.drop j).length = xs.length := by rw [List.length_append, marksI_len, List.length_drop]; omega
    have c1 : ∃ x, wr.cell? ⟨g, j, none⟩ = some (.int .i64 x) := by
     have hj' : j < (marksI k j ++ xs.drop j).length := by omega
     rw [World.ownsRow.cellAt hR.out j (by omega), List.getElem?_map, List.getElem?_eq_getElem hj']
     exact ⟨_, rfl⟩
    have f1 : wr.frozen? ⟨g, j, none⟩ = false := World.ownsRow.frozenAt hR.out j
    obtain ⟨x, c1⟩ := c1
    have HR3 : Hid (OwnInts B (wr.setCell ⟨g, j, none⟩ (.int .i64 kk)) (.slice (some ⟨g, 0, none⟩) (marksI k (j + 1) ++ xs.drop (j + 1)).length cap) (marksI k (j + 1) ++ xs.drop (j + 1))) := by
     have h3 := own_set hR.out j kk
     rw [show kk = ((k + j : Nat) : Int) by have := hkk.out; omega] at h3 ⊢
     rw [marksI_set k j xs hlt] at h3
     exact h3
    have HG3 := Lib.hid (grown_set hG.out j (.int .i64 kk))
    have Hk2 : Hid (kk + 1 = (k : Int) + ((j + 1 : Nat) : Int)) := by
     have := hkk.out
     show _ = _
     omega
    clear hle
    go_wp2_with fail
    go_roundw
    case rel => exact ⟨j + 1, kk + 1, by omega, by omega, hbd, rfl, by go_num, Hk2, HR3, HG3⟩
    case measure => simp [intOf]; omega
   ·
    have he : j = xs.length := by omega
    have Hf : Hid (OwnInts B wr (.slice (some ⟨g, 0, none⟩) xs.length cap) (marksI k xs.length)) := by
     have h3 := hR.out
     rw [he, marksI_all, marksI_len] at h3
     exact h3
    have Hk2 : Hid (kk = (k : Int) + xs.length) := by rw [← he]; exact hkk
    clear he
    go_wp2_with fail
    go_ret
    exact ⟨ret_int Hk2.out, Hf, hG⟩

set_option maxHeartbeats 400000 in
theorem laws_heldIntS (a : Option Addr) (c k n : Nat) (hn : n ≤ 2097152) (hk2 : k ≤ 1048576) (w : World) (h1 : IntsIn w a (marksI k n)) :
  Calls Try.prog 37 #[.slice a n c, .int .i64 k] w fun e w' => e = .returned (.int .i64 ((k : Int) + n)) ∧ w = w' := by
 have H1 := Lib.hid h1
 clear h1
 go_enter Try.func37, Try.ntmps37
 go_wp2_with fail
 go_loop [1, 5] (fun q i => ∃ (j : Nat) (kk : Int), j ≤ n ∧ 0 ≤ kk ∧ kk ≤ 4194304 ∧ q = .int .i64 kk ∧ i = .int .i64 j ∧ Hid (kk = (k : Int) + j)) (fun _ i => n - (intOf i).toNat)
 case atStart => exact ⟨0, k, by omega, by omega, by omega, rfl, rfl, (by show (k : Int) = k + (0 : Nat); omega)⟩
 case round =>
  obtain ⟨j, kk, hj, hq0, hq1, rfl, rfl, hkk⟩ := hrel
  by_cases hlt : j < n
  ·
   have hbd : kk + 1 ≤ 4194304 := by have := hkk.out; omega
   obtain ⟨b, o, rfl, hx⟩ := H1.out j _ (marksI_at k n j hlt)
   rw [show ((k + j : Nat) : Int) = kk by have := hkk.out; omega] at hx
   have Hk2 : Hid (kk + 1 = (k : Int) + ((j + 1 : Nat) : Int)) := by
    have := hkk.out
    show _ = _
    omega
   go_wp2_with fail
   go_round
   case rel => exact ⟨j + 1, kk + 1, by omega, by omega, hbd, rfl, by go_num, Hk2⟩
   case measure => simp [intOf]; omega
  ·
   have he : Hid (kk = (k : Int) + n) := by
    have := hkk.out
    show _ = _
    rw [this]; omega
   go_wp2_with fail
   go_ret
   exact ⟨ret_int he.out, rfl⟩
end Go.Proofs.Ytpjnjidbdpfdcaa
