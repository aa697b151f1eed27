/- The walk of FnExactJoin: for every list of strings and every separator the law returns true. -/
import Derived.Test.YtlaohlcghdbjhaaDoorShelf
import Derived.Test.YtlaohlcghdbjhaaDoorStrsIn
import Derived.Lib.AppendStr
import Derived.Lib.Join
import Derived.Laws.IdiomStrings
import Derived.Deep.QuietTactic
import Derived.BigQuiet
namespace Go.Proofs.YtlaohlcghdbjhaaDoor
open Go.RowKit

theorem info_u8 : (Tryd.prog.info? 5).map (fun i => (i.zero, i.size, i.bytes)) = some (some (.int .u8 0), 1, 1) := by kernel_rfl

/-- The first k joined. -/
def jp (xs : List ByteArray) (sep : ByteArray) (k : Nat) : List UInt8 := Lib.join ((xs.take k).map (·.data.toList)) sep.data.toList
theorem join_snoc (ys : List (List UInt8)) (y : List UInt8) (sep : List UInt8) (h : ys ≠ []) : Lib.join (ys ++ [y]) sep = Lib.join ys sep ++ (sep ++ y) := by
  induction ys with
  | nil => exact absurd rfl h
  | cons x r ih =>
    cases r with
    | nil => simp [Lib.join, List.intercalate]
    | cons z r =>
      have := ih (by simp)
      have e : ∀ (a b : List UInt8) (l : List (List UInt8)), Lib.join (a :: b :: l) sep = a ++ (sep ++ Lib.join (b :: l) sep) := by intro a b l; simp [Lib.join, List.intercalate]
      rw [List.cons_append, List.cons_append, e, ← List.cons_append, this, e]
      simp
theorem jp_zero (xs : List ByteArray) (sep : ByteArray) : jp xs sep 0 = [] := rfl
theorem jp_one (xs : List ByteArray) (sep x : ByteArray) (hx : xs[0]? = some x) : jp xs sep 1 = x.data.toList := by
  cases xs with
  | nil => simp at hx
  | cons y r =>
    have : y = x := by simpa using hx
    subst this
    simp [jp, Lib.join, List.intercalate]
theorem jp_next (xs : List ByteArray) (sep x : ByteArray) (k : Nat) (hk : 1 ≤ k) (hx : xs[k]? = some x) : jp xs sep (k + 1) = jp xs sep k ++ sep.data.toList ++ x.data.toList := by
  have hl : k < xs.length := (List.getElem?_eq_some_iff.1 hx).1
  have e : xs[k] = x := (List.getElem?_eq_some_iff.1 hx).2
  unfold jp
  rw [List.take_succ_eq_append_getElem hl, List.map_append, List.map_cons, List.map_nil, join_snoc _ _ _ (by intro h; have := congrArg List.length h; rw [List.length_map, List.length_take, List.length_nil] at this; omega), e]
  simp
theorem jp_all (xs : List ByteArray) (sep : ByteArray) : jp xs sep xs.length = Lib.join (xs.map (·.data.toList)) sep.data.toList := by
  unfold jp; rw [List.take_length]
theorem jp_len (xs : List ByteArray) (sep : ByteArray) : ∀ k, k ≤ xs.length → (jp xs sep k).length ≤ total (xs.take k) + k * sep.size
  | 0, _ => by simp [jp_zero]
  | k + 1, h => by
    have hx : xs[k]? = some xs[k] := List.getElem?_eq_getElem (by omega)
    have ih := jp_len xs sep k (by omega)
    have ht := total_next xs k (by omega)
    have hg : xs.getD k ByteArray.empty = xs[k] := by rw [List.getD_eq_getElem?_getD, hx]; rfl
    rw [hg] at ht
    have e1 : sep.data.toList.length = sep.size := by simp
    have e2 : xs[k].data.toList.length = xs[k].size := by simp
    by_cases h0 : k = 0
    · subst h0
      rw [jp_one xs sep _ hx, ht, e2]; omega
    · rw [jp_next xs sep _ k (by omega) hx, List.length_append, List.length_append, e1, e2, ht, Nat.add_mul, Nat.one_mul]
      omega
theorem total_le (xs : List ByteArray) (k : Nat) : total (xs.take k) ≤ total xs := by
  unfold total
  have : xs = xs.take k ++ xs.drop k := (List.take_append_drop k xs).symm
  conv => rhs; rw [this]
  rw [List.map_append, List.sum_append]
  omega

/-- A row of the call's own that holds these bytes, not nil. -/
def OwnBytes (B : Nat) (w : World) (v : Value) (l : List UInt8) : Prop :=
  w.ownsRow B 5 1 v l.length (l.map fun b => Value.int .u8 b.toNat) ∧ v ≠ .slice none 0 0
theorem own_text {B : Nat} {w' : World} {v v' : Value} {l : List UInt8} {s : ByteArray} (h : w'.ownsRow B 5 1 v' (l.length + s.size) ((l.map fun b => Value.int .u8 b.toNat) ++ Lib.strCells s))
    (hv : v ≠ .slice none 0 0) (hn : v' = .slice none 0 0 ↔ v = .slice none 0 0 ∧ s = ByteArray.empty) : OwnBytes B w' v' (l ++ s.data.toList) := by
  refine ⟨?_, fun e => hv (hn.1 e).1⟩
  have e : s.data.toList.length = s.size := by simp
  rw [List.length_append, e, List.map_append]
  exact h
theorem own_back {B : Nat} {w : World} {v : Value} {l : List UInt8} (h : OwnBytes B w v l) :
    ∃ g cap, v = .slice (some ⟨g, 0, none⟩) l.length cap ∧ (convert 22 9 v).run Tryd.prog w = .ok (.string ⟨l.toArray⟩) w := by
  obtain ⟨h, hv⟩ := h
  have h' := h
  obtain ⟨h1, h2 | ⟨g, cap, cur, rfl, hg, hh, hr⟩⟩ := h'
  · exact absurd h2.1 hv
  · refine ⟨g, cap, rfl, run_convert_bytes_back _ 22 9 5 ⟨g, 0, none⟩ cap l Tryd.underlying22 Tryd.underlying5 Tryd.underlying9 (fun j hj => ?_)⟩
    have := h.cells (g := g) rfl j (.int .u8 (l[j].toNat : Int)) (by simp [hj])
    exact this
def JoinPost (xs : List ByteArray) (sep : ByteArray) (w : World) (e : Ending) (w' : World) : Prop :=
  e = .returned (.string ⟨(Lib.join (xs.map (·.data.toList)) sep.data.toList).toArray⟩) ∧ Below w.heap.size w w'

set_option maxRecDepth 100000 in
set_option maxHeartbeats 1000000 in
theorem spec_Join (g cap : Nat) (xs : List ByteArray) (sep : ByteArray) (hn : xs.length ≤ 1048576) (ht : total xs ≤ 1048576) (hs : sep.size ≤ 1048576) (w : World) (hg : g < w.heap.size)
    (hz : ∀ j x, xs[j]? = some x → w.cell? ⟨g, j, none⟩ = some (.string x)) :
    Calls Tryd.prog 43 #[.slice (some ⟨g, 0, none⟩) xs.length cap, .string sep] w (JoinPost xs sep w) := by
  obtain ⟨i0, hi, hz0, hz1, hz2⟩ := info_parts info_u8
  have HI := Lib.hid hi
  have HZ0 := Lib.hid hz0
  have HZ1 := Lib.hid hz1
  have HZ2 := Lib.hid hz2
  have Hz := Lib.hid hz
  clear hz hi hz0 hz1 hz2
  go_enter Tryd.func43, Tryd.ntmps43
  go_wp2_with fail
  go_loopw [5, 6] (fun v i wr => ∃ k : Nat, k ≤ xs.length ∧ i = .int .i64 k ∧ Hid (OwnBytes w.heap.size wr v (jp xs sep k)) ∧ Hid (Below w.heap.size w wr)) (fun _ i _ => xs.length - (intOf i).toNat)
  case atStart => exact ⟨0, Nat.zero_le _, rfl, ⟨World.ownsRow_made w #[] 0 (Nat.le_refl _) (Nat.zero_le _) rfl, fun e => by cases e⟩, (Below.refl _ _).alloc (Nat.le_refl _) _⟩
  case round =>
    obtain ⟨k, hk, rfl, hO, hB⟩ := hrel
    have hsz := hB.out.size
    by_cases hlt : k < xs.length
    · have hx : xs[k]? = some xs[k] := List.getElem?_eq_getElem hlt
      have hcell := (hB.out.cell (p := ⟨g, k, none⟩) hg).trans (Hz.out k _ hx)
      have hjl := jp_len xs sep k hk
      have hjl2 := total_le xs k
      have hjb : (jp xs sep k).length ≤ 1048576 + 1048576 * 1048576 := by
        have : k * sep.size ≤ 1048576 * 1048576 := Nat.mul_le_mul (by omega) hs
        omega
      have hxs : xs[k].size ≤ 1048576 := by
        have := total_next xs k hlt
        have hg : xs.getD k ByteArray.empty = xs[k] := by rw [List.getD_eq_getElem?_getD, hx]; rfl
        rw [hg] at this
        have := total_le xs (k + 1)
        omega
      clear hjl hjl2
      by_cases h0 : k = 0
      · subst h0
        have He : Hid (jp xs sep 1 = jp xs sep 0 ++ xs[0].data.toList) := by show _ = _; rw [jp_one xs sep _ hx, jp_zero]; rfl
        generalize xs[0] = x at *
        clear hx
        go_wp2_with (at_builtin; refine Lib.wpList_append_own_string _ rfl _ _ 22 9 rfl w.heap.size 5 i0 Tryd.underlying22 Tryd.underlying9 HI.out HZ0.out HZ1.out HZ2.out _ _ _ rfl hO.out.1 x rfl ?c1 ?c2 ?c3 ?_)
        case c1 => unfold maxLen; omega
        case c2 => omega
        case c3 => exact hsz
        intro v' w1 hown' hgrow hnil
        have Ho1 := Lib.hid (own_text hown' hO.out.2 hnil)
        have Hb1 := Lib.hid (hB.out.grown hgrow hsz (fun g hg => (hO.out.1.lt g hg).1))
        rw [← He.out] at Ho1
        clear hown' hgrow hnil
        go_wp2_with fail
        go_roundw
        case rel => exact ⟨1, by omega, by go_num, Ho1, Hb1⟩
        case measure => simp [intOf]; omega
      · have hpos : 0 < k := by omega
        have He : Hid (jp xs sep (k + 1) = jp xs sep k ++ sep.data.toList ++ xs[k].data.toList) := jp_next xs sep _ k hpos hx
        generalize xs[k] = x at *
        clear hx
        go_wp2_with (at_builtin; refine Lib.wpList_append_own_string _ rfl _ _ 22 9 rfl w.heap.size 5 i0 Tryd.underlying22 Tryd.underlying9 HI.out HZ0.out HZ1.out HZ2.out _ _ _ rfl hO.out.1 sep rfl ?c1 ?c2 ?c3 ?_)
        case c1 => unfold maxLen; omega
        case c2 => omega
        case c3 => exact hsz
        intro v' w1 hown' hgrow hnil
        have Ho1 := Lib.hid (own_text hown' hO.out.2 hnil)
        have hb1 := hB.out.grown hgrow hsz (fun g hg => (hO.out.1.lt g hg).1)
        have Hb1 := Lib.hid hb1
        have hsz1 := hb1.size
        have hcell1 := (hb1.cell (p := ⟨g, k, none⟩) hg).trans ((hB.out.cell (p := ⟨g, k, none⟩) hg).symm.trans hcell)
        have hlen1 : (jp xs sep k ++ sep.data.toList).length ≤ 1048576 + 1048576 * 1048576 + 1048576 := by
          rw [List.length_append]
          have : sep.data.toList.length = sep.size := by simp
          omega
        clear hown' hgrow hnil hcell hb1
        generalize jp xs sep k ++ sep.data.toList = l2 at *
        go_wp2_with (at_builtin; refine Lib.wpList_append_own_string _ rfl _ _ 22 9 rfl w.heap.size 5 i0 Tryd.underlying22 Tryd.underlying9 HI.out HZ0.out HZ1.out HZ2.out _ _ _ rfl Ho1.out.1 x rfl ?d1 ?d2 ?d3 ?_)
        case d1 => unfold maxLen; omega
        case d2 => omega
        case d3 => exact hsz1
        intro v2 w2 hown2 hgrow2 hnil2
        have Ho2 := Lib.hid (own_text hown2 Ho1.out.2 hnil2)
        have Hb2 := Lib.hid (Hb1.out.grown hgrow2 hsz1 (fun g hg => (Ho1.out.1.lt g hg).1))
        rw [← He.out] at Ho2
        clear hown2 hgrow2 hnil2
        go_wp2_with fail
        go_roundw
        case rel => exact ⟨k + 1, by omega, by go_num, Ho2, Hb2⟩
        case measure => simp [intOf]; omega
    · have he : k = xs.length := by omega
      subst he
      have ha := Lib.hid (jp_all xs sep)
      obtain ⟨g2, cap2, rfl, hcv⟩ := own_back hO.out
      go_wp2_with fail
      go_ret
      exact ⟨by rw [← ha.out]; rfl, hB⟩

theorem impl_Join1 (bk c : Nat) (xs : List ByteArray) (sep : ByteArray) (w : World) (hcells : ∀ j x, xs[j]? = some x → w.cell? ⟨bk, j, none⟩ = some (.string x)) (hbk : bk < w.heap.size) (hN : xs.length ≤ 1048577) (hcap : xs.length ≤ c)
    (hlen : (Lib.join (xs.map (·.data.toList)) sep.data.toList).length ≤ 140737488355328) :
    Calls Tryd.prog 41 #[.slice (some ⟨bk, 0, none⟩) xs.length c, .string sep] w (JoinPost xs sep w) := by
  have H := Lib.hid (show ∀ (j : Nat) x, xs[j]? = some x → w.cell? ⟨bk, 0 + j, none⟩ = some (.string x) from fun j x hx => by rw [Nat.zero_add]; exact hcells j x hx)
  clear hcells
  go_enter Tryd.func41, Tryd.ntmps41
  go_wp2_with fail
  refine (Tryd.strings_Join bk 0 c xs sep w H.out hbk (by omega) hcap hlen).mono ?_
  rintro e w1 ⟨rfl, hb⟩
  go_wp2_with fail
  go_ret
  exact ⟨rfl, hb⟩
/-- Two rows that hold the same strings are equal. -/
def DrawnTrue1 (w : World) (e : Ending) (w' : World) : Prop := e = .returned (.bool true) ∧ ∃ d, w' = w.drewN d
namespace fnExactJoin
end fnExactJoin
end Go.Proofs.YtlaohlcghdbjhaaDoor
