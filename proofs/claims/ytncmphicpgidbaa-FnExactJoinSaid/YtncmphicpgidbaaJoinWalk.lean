/- The walk of FnExactJoin: for every list of strings and every separator the law returns true. -/
import Derived.Test.YtncmphicpgidbaaShelf
import Derived.Test.YtncmphicpgidbaaStrsIn
import Derived.Lib.AppendStr
import Derived.Lib.Join
import Derived.Laws.IdiomStrings
import Derived.Deep.QuietTactic
import Derived.BigQuiet
namespace Go.Proofs.Ytncmphicpgidbaa
open Go.RowKit

theorem info_u8 : (Try.prog.info? 5).map (fun i => (i.zero, i.size, i.bytes)) = some (some (.int .u8 0), 1, 1) := by kernel_rfl

/-- The first k joined. -/
def jp (xs : List ByteArray) (sep : ByteArray) (k : Nat) : List UInt8 := Lib.join ((xs.take k).map (·.data.toList)) sep.data.toList
theorem join_snoc (ys : List (List UInt8)) (y : List UInt8) (sep : List UInt8) (h : ys ≠ []) : Lib.join (ys ++ [y]) sep = Lib.join ys sep ++ (sep ++ y) := by
  induction ys with
  | nil => exact absurd rfl h
  | cons x r ih =>
    cases r with
    | nil => simp [Lib.join, List.intercalate]
    | cons z r =>
      have := ih (by simp)
      have e : ∀ (a b : List UInt8) (l : List (List UInt8)), Lib.join (a :: b :: l) sep = a ++ (sep ++ Lib.join (b :: l) sep) := by intro a b l; simp [Lib.join, List.intercalate]
      rw [List.cons_append, List.cons_append, e, ← List.cons_append, this, e]
      simp
theorem jp_zero (xs : List ByteArray) (sep : ByteArray) : jp xs sep 0 = [] := rfl
theorem jp_one (xs : List ByteArray) (sep x : ByteArray) (hx : xs[0]? = some x) : jp xs sep 1 = x.data.toList := by
  cases xs with
  | nil => simp at hx
  | cons y r =>
    have : y = x := by simpa using hx
    subst this
    simp [jp, Lib.join, List.intercalate]
theorem jp_next (xs : List ByteArray) (sep x : ByteArray) (k : Nat) (hk : 1 ≤ k) (hx : xs[k]? = some x) : jp xs sep (k + 1) = jp xs sep k ++ sep.data.toList ++ x.data.toList := by
  have hl : k < xs.length := (List.getElem?_eq_some_iff.1 hx).1
  have e : xs[k] = x := (List.getElem?_eq_some_iff.1 hx).2
  unfold jp
  rw [List.take_succ_eq_append_getElem hl, List.map_append, List.map_cons, List.map_nil, join_snoc _ _ _ (by intro h; have := congrArg List.length h; rw [List.length_map, List.length_take, List.length_nil] at this; omega), e]
  simp
theorem jp_all (xs : List ByteArray) (sep : ByteArray) : jp xs sep xs.length = Lib.join (xs.map (·.data.toList)) sep.data.toList := by
  unfold jp; rw [List.take_length]
theorem jp_len (xs : List ByteArray) (sep : ByteArray) : ∀ k, k ≤ xs.length → (jp xs sep k).length ≤ total (xs.take k) + k * sep.size
  | 0, _ => by simp [jp_zero]
  | k + 1, h => by
    have hx : xs[k]? = some xs[k] := List.getElem?_eq_getElem (by omega)
    have ih := jp_len xs sep k (by omega)
    have ht := total_next xs k (by omega)
    have hg : xs.getD k ByteArray.empty = xs[k] := by rw [List.getD_eq_getElem?_getD, hx]; rfl
    rw [hg] at ht
    have e1 : sep.data.toList.length = sep.size := by simp
    have e2 : xs[k].data.toList.length = xs[k].size := by simp
    by_cases h0 : k = 0
    · subst h0
      rw [jp_one xs sep _ hx, ht, e2]; omega
    · rw [jp_next xs sep _ k (by omega) hx, List.length_append, List.length_append, e1, e2, ht, Nat.add_mul, Nat.one_mul]
      omega
theorem total_le (xs : List ByteArray) (k : Nat) : total (xs.take k) ≤ total xs := by
  unfold total
  have : xs = xs.take k ++ xs.drop k := (List.take_append_drop k xs).symm
  conv => rhs; rw [this]
  rw [List.map_append, List.sum_append]
  omega

/-- A row of the call's own that holds these bytes, not nil. -/
def OwnBytes (B : Nat) (w : World) (v : Value) (l : List UInt8) : Prop :=
  w.ownsRow B 5 1 v l.length (l.map fun b => Value.int .u8 b.toNat) ∧ v ≠ .slice none 0 0
theorem own_text {B : Nat} {w' : World} {v v' : Value} {l : List UInt8} {s : ByteArray} (h : w'.ownsRow B 5 1 v' (l.length + s.size) ((l.map fun b => Value.int .u8 b.toNat) ++ Lib.strCells s))
    (hv : v ≠ .slice none 0 0) (hn : v' = .slice none 0 0 ↔ v = .slice none 0 0 ∧ s = ByteArray.empty) : OwnBytes B w' v' (l ++ s.data.toList) := by
  refine ⟨?_, fun e => hv (hn.1 e).1⟩
  have e : s.data.toList.length = s.size := by simp
  rw [List.length_append, e, List.map_append]
  exact h
theorem own_back {B : Nat} {w : World} {v : Value} {l : List UInt8} (h : OwnBytes B w v l) :
    ∃ g cap, v = .slice (some ⟨g, 0, none⟩) l.length cap ∧ (convert 28 9 v).run Try.prog w = .ok (.string ⟨l.toArray⟩) w := by
  obtain ⟨h, hv⟩ := h
  have h' := h
  obtain ⟨h1, h2 | ⟨g, cap, cur, rfl, hg, hh, hr⟩⟩ := h'
  · exact absurd h2.1 hv
  · refine ⟨g, cap, rfl, run_convert_bytes_back _ 28 9 5 ⟨g, 0, none⟩ cap l Try.underlying28 Try.underlying5 Try.underlying9 (fun j hj => ?_)⟩
    have := h.cells (g := g) rfl j (.int .u8 (l[j].toNat : Int)) (by simp [hj])
    exact this
def JoinPost (xs : List ByteArray) (sep : ByteArray) (w : World) (e : Ending) (w' : World) : Prop :=
  e = .returned (.string ⟨(Lib.join (xs.map (·.data.toList)) sep.data.toList).toArray⟩) ∧ Below w.heap.size w w'

set_option maxRecDepth 100000 in
set_option maxHeartbeats 1000000 in
theorem spec_Join (g cap : Nat) (xs : List ByteArray) (sep : ByteArray) (hn : xs.length ≤ 1048576) (ht : total xs ≤ 1048576) (hs : sep.size ≤ 1048576) (w : World) (hg : g < w.heap.size)
    (hz : ∀ j x, xs[j]? = some x → w.cell? ⟨g, j, none⟩ = some (.string x)) :
    Calls Try.prog 5 #[.slice (some ⟨g, 0, none⟩) xs.length cap, .string sep] w (JoinPost xs sep w) := by
  obtain ⟨i0, hi, hz0, hz1, hz2⟩ := info_parts info_u8
  have HI := Lib.hid hi
  have HZ0 := Lib.hid hz0
  have HZ1 := Lib.hid hz1
  have HZ2 := Lib.hid hz2
  have Hz := Lib.hid hz
  clear hz hi hz0 hz1 hz2
  go_enter Try.func5, Try.ntmps5
  go_wp2_with fail
  go_loopw [5, 6] (fun v i wr => ∃ k : Nat, k ≤ xs.length ∧ i = .int .i64 k ∧ Hid (OwnBytes w.heap.size wr v (jp xs sep k)) ∧ Hid (Below w.heap.size w wr)) (fun _ i _ => xs.length - (intOf i).toNat)
  case atStart => exact ⟨0, Nat.zero_le _, rfl, ⟨World.ownsRow_made w #[] 0 (Nat.le_refl _) (Nat.zero_le _) rfl, fun e => by cases e⟩, (Below.refl _ _).alloc (Nat.le_refl _) _⟩
  case round =>
    obtain ⟨k, hk, rfl, hO, hB⟩ := hrel
    have hsz := hB.out.size
    by_cases hlt : k < xs.length
    · have hx : xs[k]? = some xs[k] := List.getElem?_eq_getElem hlt
      have hcell := (hB.out.cell (p := ⟨g, k, none⟩) hg).trans (Hz.out k _ hx)
      have hjl := jp_len xs sep k hk
      have hjl2 := total_le xs k
      have hjb : (jp xs sep k).length ≤ 1048576 + 1048576 * 1048576 := by
        have : k * sep.size ≤ 1048576 * 1048576 := Nat.mul_le_mul (by omega) hs
        omega
      have hxs : xs[k].size ≤ 1048576 := by
        have := total_next xs k hlt
        have hg : xs.getD k ByteArray.empty = xs[k] := by rw [List.getD_eq_getElem?_getD, hx]; rfl
        rw [hg] at this
        have := total_le xs (k + 1)
        omega
      clear hjl hjl2
      by_cases h0 : k = 0
      · subst h0
        have He : Hid (jp xs sep 1 = jp xs sep 0 ++ xs[0].data.toList) := by show _ = _; rw [jp_one xs sep _ hx, jp_zero]; rfl
        generalize xs[0] = x at *
        clear hx
        go_wp2_with (at_builtin; refine Lib.wpList_append_own_string _ rfl _ _ 28 9 rfl w.heap.size 5 i0 Try.underlying28 Try.underlying9 HI.out HZ0.out HZ1.out HZ2.out _ _ _ rfl hO.out.1 x rfl ?c1 ?c2 ?c3 ?_)
        case c1 => unfold maxLen; omega
        case c2 => omega
        case c3 => exact hsz
        intro v' w1 hown' hgrow hnil
        have Ho1 := Lib.hid (own_text hown' hO.out.2 hnil)
        have Hb1 := Lib.hid (hB.out.grown hgrow hsz (fun g hg => (hO.out.1.lt g hg).1))
        rw [← He.out] at Ho1
        clear hown' hgrow hnil
        go_wp2_with fail
        go_roundw
        case rel => exact ⟨1, by omega, by go_num, Ho1, Hb1⟩
        case measure => simp [intOf]; omega
      · have hpos : 0 < k := by omega
        have He : Hid (jp xs sep (k + 1) = jp xs sep k ++ sep.data.toList ++ xs[k].data.toList) := jp_next xs sep _ k hpos hx
        generalize xs[k] = x at *
        clear hx
        go_wp2_with (at_builtin; refine Lib.wpList_append_own_string _ rfl _ _ 28 9 rfl w.heap.size 5 i0 Try.underlying28 Try.underlying9 HI.out HZ0.out HZ1.out HZ2.out _ _ _ rfl hO.out.1 sep rfl ?c1 ?c2 ?c3 ?_)
        case c1 => unfold maxLen; omega
        case c2 => omega
        case c3 => exact hsz
        intro v' w1 hown' hgrow hnil
        have Ho1 := Lib.hid (own_text hown' hO.out.2 hnil)
        have hb1 := hB.out.grown hgrow hsz (fun g hg => (hO.out.1.lt g hg).1)
        have Hb1 := Lib.hid hb1
        have hsz1 := hb1.size
        have hcell1 := (hb1.cell (p := ⟨g, k, none⟩) hg).trans ((hB.out.cell (p := ⟨g, k, none⟩) hg).symm.trans hcell)
        have hlen1 : (jp xs sep k ++ sep.data.toList).length ≤ 1048576 + 1048576 * 1048576 + 1048576 := by
          rw [List.length_append]
          have : sep.data.toList.length = sep.size := by simp
          omega
        clear hown' hgrow hnil hcell hb1
        generalize jp xs sep k ++ sep.data.toList = l2 at *
        go_wp2_with (at_builtin; refine Lib.wpList_append_own_string _ rfl _ _ 28 9 rfl w.heap.size 5 i0 Try.underlying28 Try.underlying9 HI.out HZ0.out HZ1.out HZ2.out _ _ _ rfl Ho1.out.1 x rfl ?d1 ?d2 ?d3 ?_)
        case d1 => unfold maxLen; omega
        case d2 => omega
        case d3 => exact hsz1
        intro v2 w2 hown2 hgrow2 hnil2
        have Ho2 := Lib.hid (own_text hown2 Ho1.out.2 hnil2)
        have Hb2 := Lib.hid (Hb1.out.grown hgrow2 hsz1 (fun g hg => (Ho1.out.1.lt g hg).1))
        rw [← He.out] at Ho2
        clear hown2 hgrow2 hnil2
        go_wp2_with fail
        go_roundw
        case rel => exact ⟨k + 1, by omega, by go_num, Ho2, Hb2⟩
        case measure => simp [intOf]; omega
    · have he : k = xs.length := by omega
      subst he
      have ha := Lib.hid (jp_all xs sep)
      obtain ⟨g2, cap2, rfl, hcv⟩ := own_back hO.out
      go_wp2_with fail
      go_ret
      exact ⟨by rw [← ha.out]; rfl, hB⟩

theorem impl_Join1 (bk c : Nat) (xs : List ByteArray) (sep : ByteArray) (w : World) (hcells : ∀ j x, xs[j]? = some x → w.cell? ⟨bk, j, none⟩ = some (.string x)) (hbk : bk < w.heap.size) (hN : xs.length ≤ 1048577) (hcap : xs.length ≤ c)
    (hlen : (Lib.join (xs.map (·.data.toList)) sep.data.toList).length ≤ 140737488355328) :
    Calls Try.prog 7 #[.slice (some ⟨bk, 0, none⟩) xs.length c, .string sep] w (JoinPost xs sep w) := by
  have H := Lib.hid (show ∀ (j : Nat) x, xs[j]? = some x → w.cell? ⟨bk, 0 + j, none⟩ = some (.string x) from fun j x hx => by rw [Nat.zero_add]; exact hcells j x hx)
  clear hcells
  go_enter Try.func7, Try.ntmps7
  go_wp2_with fail
  refine (Try.strings_Join bk 0 c xs sep w H.out hbk (by omega) hcap hlen).mono ?_
  rintro e w1 ⟨rfl, hb⟩
  go_wp2_with fail
  go_ret
  exact ⟨rfl, hb⟩
/-- Two rows that hold the same strings are equal. -/
def DrawnTrue1 (w : World) (e : Ending) (w' : World) : Prop := e = .returned (.bool true) ∧ ∃ d, w' = w.drewN d
set_option maxRecDepth 100000 in
set_option maxHeartbeats 400000 in
theorem eqStrs1 (b1 c1 b2 c2 : Nat) (xs : List ByteArray) (hn : xs.length ≤ 1099511627776) (w : World) (h1 : ∀ j x, xs[j]? = some x → w.cell? ⟨b1, j, none⟩ = some (.string x)) (h2 : ∀ j x, xs[j]? = some x → w.cell? ⟨b2, j, none⟩ = some (.string x)) :
    Calls Try.prog 8 #[.slice (some ⟨b1, 0, none⟩) xs.length c1, .slice (some ⟨b2, 0, none⟩) xs.length c2] w (DrawnTrue1 w) := by
  have H1 := Lib.hid h1
  have H2 := Lib.hid h2
  clear h1 h2
  go_enter Try.func8, Try.ntmps8
  go_wp2_with fail
  go_loopw [5] (fun i wr => ∃ k : Nat, k ≤ xs.length ∧ i = .int .i64 k ∧ Hid (∃ d, wr = w.drewN d)) (fun i _ => xs.length - (intOf i).toNat)
  case atStart => exact ⟨0, Nat.zero_le _, rfl, ⟨0, rfl⟩⟩
  case round =>
    obtain ⟨k, hk, rfl, hD⟩ := hrel
    by_cases hlt : k < xs.length
    · have hx : xs[k]? = some xs[k] := List.getElem?_eq_getElem hlt
      have g1 : wr.cell? ⟨b1, k, none⟩ = some (.string xs[k]) := by
        obtain ⟨d, rfl⟩ := hD.out
        exact H1.out k _ hx
      have g2 : wr.cell? ⟨b2, k, none⟩ = some (.string xs[k]) := by
        obtain ⟨d, rfl⟩ := hD.out
        exact H2.out k _ hx
      clear hx
      go_wp2_with fail
      go_quiet (fail)
      go_wp2_with fail
      go_roundw
      case rel => exact ⟨k + 1, by omega, by go_num, by obtain ⟨d, rfl⟩ := hD.out; exact ⟨d + nq, by simp [Nat.add_comm]⟩⟩
      case measure => simp [intOf]; omega
    · go_wp2_with fail
      go_ret
      exact ⟨rfl, hD⟩

namespace fnExactJoin
set_option maxRecDepth 100000 in
set_option maxHeartbeats 1000000 in
theorem walk (a : Option Addr) (len cap : Nat) (xs : List ByteArray) (sep : ByteArray) (_ws : sep.size ≤ maxLen) (w : World) (hz : StrsOf w.heap.size w a len xs) :
    Calls Try.prog 3 #[.slice a len cap, .string sep] w fun e w' => e = .returned (.bool true) ∧ Below w.heap.size w w' := by
  have Hz := Lib.hid hz
  have Hxl := Lib.hid hz.2.1
  clear hz
  by_cases hbig : 1048576 < sep.size
  · have hb : decide ((1048576 : Int) < (sep.size : Int)) = true := by rw [decide_eq_true_iff]; omega
    go_enter Try.func3, Try.ntmps3
    go_wp2_with fail
    go_ret
    exact ⟨rfl, Below.refl _ _⟩
  · have hs : sep.size ≤ 1048576 := by omega
    have hb : decide ((1048576 : Int) < (sep.size : Int)) = false := by rw [decide_eq_false_iff_not]; omega
    go_enter Try.func3, Try.ntmps3
    go_wp2_with fail
    refine (sz_strs w.heap.size a len cap xs 1048576 (by decide) (by decide) w Hz.out).mono ?_
    rintro e w1 ⟨r, rfl, hr1, hr2, rfl⟩
    by_cases hr : r < 0
    · have hb2 : decide (r < 0) = true := by rw [decide_eq_true_iff]; exact hr
      clear hr2
      go_wp2_with fail
      go_ret
      exact ⟨rfl, Below.refl _ _⟩
    · have hb2 : decide (r < 0) = false := by rw [decide_eq_false_iff_not]; exact hr
      have h3 := hr2 (by omega)
      have hn : xs.length ≤ 1048576 := by omega
      have ht : total xs ≤ 1048576 := by omega
      have hl : len ≤ 1048576 := by have := Hxl.out; omega
      have Hj : Hid ((Lib.join (xs.map (·.data.toList)) sep.data.toList).length ≤ 140737488355328) := by
        show _ ≤ _
        have h4 := jp_len xs sep xs.length (Nat.le_refl _)
        rw [jp_all, List.take_length] at h4
        have : xs.length * sep.size ≤ 1048576 * 1048576 := Nat.mul_le_mul hn hs
        omega
      clear hr2 h3
      go_wp2_with fail
      refine (to_strs a len cap xs hl w Hz.out).mono ?_
      rintro e w1 ⟨g1, rfl, hg1, hgl1, hc1, hb1⟩
      have Hb1 := Lib.hid hb1
      have Hc1 := Lib.hid hc1
      clear hb1 hc1
      go_wp2_with fail
      refine (spec_Join g1 xs.length xs sep hn ht hs w1 hgl1 Hc1.out).mono ?_
      rintro e w2 ⟨rfl, hb2'⟩
      have Hb2 := Lib.hid (Hb1.out.trans (hb2'.mono Hb1.out.size))
      clear hb2'
      go_wp2_with fail
      refine (to_strs a len cap xs hl w2 (by have := Hz.out.below Hb2.out; exact ⟨this.1, this.2.1, fun i hi => by obtain ⟨b, o, q1, q2, q3⟩ := this.2.2 i hi; exact ⟨b, o, q1, Nat.lt_of_lt_of_le q2 Hb2.out.size, q3⟩⟩)).mono ?_
      rintro e w3 ⟨g3, rfl, hg3, hgl3, hc3, hb3⟩
      have Hb3 := Lib.hid (Hb2.out.trans (hb3.mono Hb2.out.size))
      have Hc3 := Lib.hid hc3
      clear hb3 hc3
      go_wp2_with fail
      refine (impl_Join1 g3 xs.length xs sep w3 Hc3.out hgl3 (by omega) (Nat.le_refl _) Hj.out).mono ?_
      rintro e w4 ⟨rfl, hb4⟩
      have Hb4 := Lib.hid (Hb3.out.trans (hb4.mono Hb3.out.size))
      have Hc4 : Hid (∀ j x, xs[j]? = some x → w4.cell? ⟨g3, j, none⟩ = some (.string x)) := fun j x hx => by rw [hb4.cell (p := ⟨g3, j, none⟩) hgl3]; exact Hc3.out j x hx
      have hgl4 : g3 < w4.heap.size := by have := hb4.size; omega
      clear hb4
      go_wp2_with fail
      refine (to_strs a len cap xs hl w4 (by have := Hz.out.below Hb4.out; exact ⟨this.1, this.2.1, fun i hi => by obtain ⟨b, o, q1, q2, q3⟩ := this.2.2 i hi; exact ⟨b, o, q1, Nat.lt_of_lt_of_le q2 Hb4.out.size, q3⟩⟩)).mono ?_
      rintro e w5 ⟨g5, rfl, hg5, hgl5, hc5, hb5⟩
      have Hb5 := Lib.hid (Hb4.out.trans (hb5.mono Hb4.out.size))
      have Hc5 := Lib.hid hc5
      have Hc53 : Hid (∀ j x, xs[j]? = some x → w5.cell? ⟨g3, j, none⟩ = some (.string x)) := fun j x hx => by rw [hb5.cell (p := ⟨g3, j, none⟩) hgl4]; exact Hc4.out j x hx
      clear hb5 hc5
      go_wp2_with fail
      refine (eqStrs1 g3 xs.length g5 xs.length xs (by omega) w5 Hc53.out Hc5.out).mono ?_
      rintro e w6 ⟨rfl, d, rfl⟩
      have Hfin : Hid (Below w.heap.size w (w5.drewN d)) := ⟨Hb5.out.os, Hb5.out.tape, Hb5.out.output, Hb5.out.size, Hb5.out.block⟩
      go_wp2_with fail
      go_ret
      exact ⟨rfl, Hfin⟩
end fnExactJoin
end Go.Proofs.Ytncmphicpgidbaa
