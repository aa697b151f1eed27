/- laws.markText, eqStringS, markStringS, heldStringS: rows of strings compared, marked, and found as marked. -/
import Derived.Test.YtncmphicpgidbaaDoorChecked
import Derived.Test.YtncmphicpgidbaaDoorDec
import Derived.Test.YtncmphicpgidbaaDoorSpFmt
import Derived.Handy
import Derived.Below
import Derived.LoopTactic
import Derived.Outline
import Derived.Lib.Hide
import Derived.WalkSpells
import Derived.WalkLawsBesides
import Derived.Deep.QuietTactic
import Derived.BigQuiet
import Derived.Deep.DeepCutAuto
import Derived.Deep.RegionWith
import Derived.OneCell
import Derived.Deep.LoopGhost
import Derived.Laws.AppendOwn
namespace Go.Proofs.YtncmphicpgidbaaDoor
open Go.RowKit

def StrsAt (w : World) (b o : Nat) (xs : List ByteArray) : Prop := ∀ j x, xs[j]? = some x → w.cell? ⟨b, o + j, none⟩ = some (.string x)
theorem StrsAt.of_block {w : World} {g : Nat} {xs : List ByteArray} {t : TypeId} (h : w.heap[g]? = some (.cells (xs.map Value.string).toArray t)) : StrsAt w g 0 xs := fun j x hx => by
  simp [World.cell?, h, hx]
theorem StrsAt.same {w w' : World} {b o : Nat} {xs : List ByteArray} (h : StrsAt w b o xs) (hh : w'.heap[b]? = w.heap[b]?) : StrsAt w' b o xs := fun j x hx => by
  rw [World.cell?_of_block (w := w) hh]; exact h j x hx

/-- The mark of k. -/
def markT (k : Nat) : ByteArray := ⟨(109 :: Lib.decDigits k).toArray⟩
def marks (k n : Nat) : List ByteArray := (List.range n).map fun j => markT (k + j)

def MarkPost (k : Nat) (w : World) (e : Ending) (w' : World) : Prop := e = .returned (.string (markT k)) ∧ Below w.heap.size w w'
theorem dd_digits_len (k : Nat) (h : k ≤ 1099511627776) : (Dec.dd k).length ≤ 19 := Dec.dd_len 19 k (by show k < 10000000000000000000; omega)

set_option maxRecDepth 100000 in
set_option maxHeartbeats 400000 in
theorem laws_markText (k : Nat) (h1 : 1 ≤ k) (h2 : k ≤ 1099511627776) (w : World) : Calls Tryd.prog 37 #[.int .i64 k] w (MarkPost k w) := by
  go_enter Tryd.func37, Tryd.ntmps37
  go_wp2_with fail
  go_loopw [0, 3] (fun a o wr => ∃ m : Nat, ∃ l : List UInt8, a = .int .i64 m ∧ o = .string ⟨l.toArray⟩ ∧ m ≤ k ∧ Hid (Dec.dd m ++ l = Dec.dd k) ∧ Hid (Below w.heap.size w wr)) (fun a _ _ => (intOf a).natAbs)
  case atStart => exact ⟨k, [], rfl, rfl, Nat.le_refl _, (by show _ = _; simp), Below.refl _ _⟩
  case round =>
    obtain ⟨m, l, rfl, rfl, hm, hK, hbel⟩ := hrel
    have hll : l.length ≤ 19 := by
      have := congrArg List.length hK.out
      rw [List.length_append] at this
      have := dd_digits_len k h2
      omega
    have hsz := hbel.out.size
    by_cases h0 : m = 0
    · subst h0
      have e : Hid (l = Lib.decDigits k) := by
        have := hK.out
        rw [Dec.dd_zero, List.nil_append, Dec.dd_pos (by omega)] at this
        exact this
      go_wp2_with fail
      go_ret
      exact ⟨by unfold markT; rw [← e.out, ← Dec.cat_bytes]; rfl, hbel⟩
    · have hpos : 0 < m := by omega
      have hcv := conv_one wr _ _ (Dec.digit_pos (m : Int) (by omega))
      have e : Hid (Dec.dd (m / 10) ++ (Dec.digB (m : Int) :: l) = Dec.dd k) := by
        show _ = _
        rw [← hK.out, Dec.dd_step (u := m) (by omega)]
        simp [Dec.digB]
      go_wp2_with fail
      go_roundw
      case rel => exact ⟨m / 10, Dec.digB (m : Int) :: l, rfl, by rw [Dec.cat_bytes], by omega, e, hbel.out.alloc hsz _⟩
      case measure => simp [intOf]; omega

/-- Two rows that hold the same strings are equal. -/
def DrawnTrue (w : World) (e : Ending) (w' : World) : Prop := e = .returned (.bool true) ∧ ∃ d, w' = w.drewN d
set_option maxRecDepth 100000 in
set_option maxHeartbeats 400000 in
theorem eqStrs (b1 o1 c1 b2 o2 c2 : Nat) (xs : List ByteArray) (hn : xs.length ≤ 1099511627776) (w : World) (h1 : StrsAt w b1 o1 xs) (h2 : StrsAt w b2 o2 xs) :
    Calls Tryd.prog 22 #[.slice (some ⟨b1, o1, none⟩) xs.length c1, .slice (some ⟨b2, o2, none⟩) xs.length c2] w (DrawnTrue w) := by
  have H1 := Lib.hid h1
  have H2 := Lib.hid h2
  clear h1 h2
  go_enter Tryd.func22, Tryd.ntmps22
  go_wp2_with fail
  go_loopw [5] (fun i wr => ∃ k : Nat, k ≤ xs.length ∧ i = .int .i64 k ∧ Hid (∃ d, wr = w.drewN d)) (fun i _ => xs.length - (intOf i).toNat)
  case atStart => exact ⟨0, Nat.zero_le _, rfl, ⟨0, rfl⟩⟩
  case round =>
    obtain ⟨k, hk, rfl, hD⟩ := hrel
    by_cases hlt : k < xs.length
    · have hx : xs[k]? = some xs[k] := List.getElem?_eq_getElem hlt
      have g1 : wr.cell? ⟨b1, o1 + k, none⟩ = some (.string xs[k]) := by
        obtain ⟨d, rfl⟩ := hD.out
        exact H1.out k _ hx
      have g2 : wr.cell? ⟨b2, o2 + k, none⟩ = some (.string xs[k]) := by
        obtain ⟨d, rfl⟩ := hD.out
        exact H2.out k _ hx
      clear hx
      go_wp2_with fail
      go_quiet (fail)
      go_wp2_with fail
      go_roundw
      case rel => exact ⟨k + 1, by omega, by go_num, by obtain ⟨d, rfl⟩ := hD.out; exact ⟨d + nq, by simp [Nat.add_comm]⟩⟩
      case measure => simp [intOf]; omega
    · go_wp2_with fail
      go_ret
      exact ⟨rfl, hD⟩

theorem laws_markInt (n : Int) (h1 : 1 ≤ n) (h2 : n ≤ 1099511627776) (w : World) : Calls Tryd.prog 37 #[.int .i64 n] w (MarkPost n.toNat w) := by
  obtain ⟨k, rfl⟩ := Int.eq_ofNat_of_zero_le (show 0 ≤ n by omega)
  rw [Int.toNat_natCast]
  exact laws_markText k (by omega) (by omega) w

/-- Row g alone has turned, and holds this. -/
def RowG (g : Nat) (t : TypeId) (w wr : World) (vs : List Value) : Prop := wr.heap[g]? = some (.cells vs.toArray t) ∧ w.grownBy wr (some g)
theorem RowG.below {g : Nat} {t : TypeId} {w a b : World} {vs : List Value} (h : RowG g t w a vs) (hg : g < a.heap.size) (hb : Below a.heap.size a b) : RowG g t w b vs :=
  ⟨by rw [hb.block g hg]; exact h.1, ⟨hb.os.trans h.2.os, hb.tape.trans h.2.tape, hb.output.trans h.2.output, Nat.le_trans h.2.size hb.size, fun k hk hne => (hb.block k (Nat.lt_of_lt_of_le hk h.2.size)).trans (h.2.block k hk hne)⟩⟩
theorem heap_set {w : World} {p : Nat} {cs : Array Value} {t : TypeId} (h : w.heap[p]? = some (.cells cs t)) (k : Nat) (u : Value) :
    (w.setCell ⟨p, k, none⟩ u).heap[p]? = some (.cells (cs.setIfInBounds k u) t) := by
  have hlt := lt_of_block h
  have h' : w.heap[p] = .cells cs t := by simpa [Array.getElem?_eq_getElem hlt] using h
  show (w.heap.modify p _)[p]? = _
  rw [Array.getElem?_eq_getElem (by simpa using hlt), Array.getElem_modify_self, h']
  rfl
theorem RowG.set {g : Nat} {t : TypeId} {w a : World} {vs : List Value} (h : RowG g t w a vs) (j : Nat) (u : Value) : RowG g t w (a.setCell ⟨g, j, none⟩ u) (vs.set j u) :=
  ⟨by rw [heap_set h.1]; simp, ⟨h.2.os, h.2.tape, h.2.output, by have := h.2.size; simp; omega, fun k hk hne => by
    rw [Below.heap_setCell _ _ _ _ (show k ≠ g from fun e => hne (by rw [e]))]; exact h.2.block k hk hne⟩⟩
theorem marks_set (k j : Nat) (xs : List ByteArray) (hj : j < xs.length) :
    ((marks k j ++ xs.drop j).map Value.string).set j (.string (markT (k + j))) = (marks k (j + 1) ++ xs.drop (j + 1)).map Value.string := by
  have hl : ((marks k j).map Value.string).length = j := by simp [marks]
  rw [List.map_append, List.set_append_right _ _ (by omega), hl, Nat.sub_self, List.drop_eq_getElem_cons hj]
  have e : marks k (j + 1) = marks k j ++ [markT (k + j)] := by unfold marks; rw [List.range_succ, List.map_append]; rfl
  rw [e]
  simp only [List.map_cons, List.set_cons_zero, List.map_append, List.append_assoc, List.cons_append, List.nil_append]
theorem marks_next (k j : Nat) (xs : List ByteArray) (hj : j < xs.length) : ((marks k j ++ xs.drop j).map Value.string)[j]? = some (.string xs[j]) := by
  have hl : ((marks k j).map Value.string).length = j := by simp [marks]
  rw [List.map_append, List.getElem?_append_right (by omega), hl, Nat.sub_self, List.drop_eq_getElem_cons hj]
  rfl
theorem marks_at (k n j : Nat) (h : j < n) : (marks k n)[j]? = some (markT (k + j)) := by
  unfold marks
  simp [h]

def CountPost (k n g : Nat) (w : World) (xs : List ByteArray) (e : Ending) (w' : World) : Prop :=
  e = .returned (.int .i64 ((k : Int) + n)) ∧ RowG g 9 w w' (xs.map Value.string)
set_option maxRecDepth 100000 in
set_option maxHeartbeats 400000 in
theorem markStrs (g c k : Nat) (xs : List ByteArray) (hn : xs.length ≤ 2097152) (hk1 : 1 ≤ k) (hk2 : k ≤ 1048576) (w : World) (h1 : w.heap[g]? = some (.cells (xs.map Value.string).toArray 9)) :
    Calls Tryd.prog 23 #[.slice (some ⟨g, 0, none⟩) xs.length c, .int .i64 k] w (CountPost k xs.length g w (marks k xs.length)) := by
  have H1 := Lib.hid h1
  have hgl := lt_of_block h1
  clear h1
  go_enter Tryd.func23, Tryd.ntmps23
  go_wp2_with fail
  go_loopw [1, 5] (fun q i wr => ∃ (j : Nat) (kk : Int), j ≤ xs.length ∧ 1 ≤ kk ∧ kk ≤ 4194304 ∧ q = .int .i64 kk ∧ i = .int .i64 j ∧ Hid (kk = (k : Int) + j) ∧ Hid (RowG g 9 w wr ((marks k j ++ xs.drop j).map Value.string))) (fun _ i _ => xs.length - (intOf i).toNat)
  case atStart => exact ⟨0, k, Nat.zero_le _, by omega, by omega, rfl, rfl, (by show (k : Int) = k + (0 : Nat); omega), ⟨H1.out, ⟨rfl, rfl, rfl, Nat.le_refl _, fun _ _ _ => rfl⟩⟩⟩
  case round =>
    obtain ⟨j, kk, hj, hq0, hq1, rfl, rfl, hkk, hR⟩ := hrel
    have hgr := lt_of_block hR.out.1
    by_cases hlt : j < xs.length
    · have hbd : kk + 1 ≤ 4194304 := by have := hkk.out; omega
      go_wp2_with fail
      refine (laws_markInt kk (by omega) (by omega) _).mono ?_
      rintro e w1 ⟨rfl, hb1⟩
      have hR1 := hR.out.below hgr hb1
      have Hb1 := Lib.hid hb1
      clear hb1
      have c1 : ∃ x, w1.cell? ⟨g, j, none⟩ = some (.string x) := ⟨xs[j], by
        simp only [World.cell?, hR1.1]
        simpa using marks_next k j xs hlt⟩
      have f1 : w1.frozen? ⟨g, j, none⟩ = false := by simp [World.frozen?, hR1.1]
      obtain ⟨x, c1⟩ := c1
      have HR2 := Lib.hid (hR1.set j (.string (markT kk.toNat)))
      clear hR1
      have HR3 : Hid (RowG g 9 w (w1.setCell ⟨g, j, none⟩ (.string (markT kk.toNat))) ((marks k (j + 1) ++ xs.drop (j + 1)).map Value.string)) := by
        have h3 := HR2.out
        rw [show kk.toNat = k + j by have := hkk.out; omega] at h3 ⊢
        rw [marks_set k j xs hlt] at h3
        exact h3
      have Hk2 : Hid (kk + 1 = (k : Int) + ((j + 1 : Nat) : Int)) := by
        have := hkk.out
        show _ = _
        omega
      clear HR2
      go_wp2_with fail
      go_roundw
      case rel => exact ⟨j + 1, kk + 1, by omega, by omega, hbd, rfl, by go_num, Hk2, HR3⟩
      case measure => simp [intOf]; omega
    · have he : j = xs.length := by omega
      have Hf : Hid (RowG g 9 w wr ((marks k xs.length).map Value.string)) := by
        have h3 := hR.out
        rw [he, List.drop_length, List.append_nil] at h3
        exact h3
      have Hk2 : Hid (kk = (k : Int) + xs.length) := by rw [← he]; exact hkk
      clear he
      go_wp2_with fail
      go_ret
      exact ⟨by rw [← Hk2.out]; rfl, Hf⟩

def HeldPost (k n : Nat) (w : World) (e : Ending) (w' : World) : Prop := e = .returned (.int .i64 ((k : Int) + n)) ∧ Below w.heap.size w w'
set_option maxRecDepth 100000 in
set_option maxHeartbeats 1000000 in
theorem heldStrs (g c k n : Nat) (hn : n ≤ 2097152) (hk1 : 1 ≤ k) (hk2 : k ≤ 1048576) (w : World) (hg : g < w.heap.size) (h1 : StrsAt w g 0 (marks k n)) :
    Calls Tryd.prog 24 #[.slice (some ⟨g, 0, none⟩) n c, .int .i64 k] w (HeldPost k n w) := by
  have H1 := Lib.hid h1
  clear h1
  go_enter Tryd.func24, Tryd.ntmps24
  go_wp2_with fail
  go_loopg [1, 5] n (fun gk q i wr => ∃ (j : Nat) (kk : Int), gk + j = n ∧ 1 ≤ kk ∧ kk ≤ 4194304 ∧ q = .int .i64 kk ∧ i = .int .i64 j ∧ Hid (kk = (k : Int) + j) ∧ Hid (Below w.heap.size w wr))
  case atStart => exact ⟨0, k, by omega, by omega, by omega, rfl, rfl, (by show (k : Int) = k + (0 : Nat); omega), Below.refl _ _⟩
  case round =>
    obtain ⟨j, kk, hj, hq0, hq1, rfl, rfl, hkk, hB⟩ := hrel
    by_cases hlt : j < n
    · have hbd : kk + 1 ≤ 4194304 := by have := hkk.out; omega
      have hx : wr.cell? ⟨g, j, none⟩ = some (.string (markT kk.toNat)) := by
        have h3 := H1.out j _ (marks_at k n j hlt)
        rw [show kk.toNat = k + j by have := hkk.out; omega]
        rw [hB.out.cell (p := ⟨g, j, none⟩) hg]
        simpa using h3
      have Hx := Lib.hid hx
      have hsz := hB.out.size
      have hg2 : g < wr.heap.size := by omega
      have Hj := Lib.hid hj
      clear hj
      go_upto_region 4 with (fail)
      go_cut [18] (fun x wx => x = .bool false ∧ Hid (Below w.heap.size w wx))
      case first =>
        go_region_with (go_at_call 37; refine (laws_markInt kk (by omega) (by omega) _).mono ?_; rintro e w1 ⟨rfl, hb1⟩; have c1 := (hb1.cell (p := ⟨g, j, none⟩) (by simp; exact hg2)).trans (by simpa using Hx.out); have Hb1 := Lib.hid hb1; clear hb1)
        all_goals (go_wp2_with fail; go_meet)
        all_goals exact ⟨rfl, hB.out.drew.trans (Hb1.out.mono hsz)⟩
      case rest =>
        obtain ⟨rfl, hB2⟩ := hcut
        have Hk2 : Hid (kk + 1 = (k : Int) + ((j + 1 : Nat) : Int)) := by
          have := hkk.out
          show _ = _
          omega
        go_wp2_with fail
        go_roundg (gk - 1)
        case measure => have := Hj.out; omega
        case rel => exact ⟨j + 1, kk + 1, by have := Hj.out; omega, by omega, hbd, rfl, by go_num, Hk2, hB2⟩
    · have he : Hid (kk = (k : Int) + n) := by
        have := hkk.out
        show _ = _
        rw [this]; omega
      go_wp2_with fail
      go_ret
      exact ⟨by rw [← he.out]; rfl, hB⟩
end Go.Proofs.YtncmphicpgidbaaDoor
