/- FormatVector on both sides; condition on impl's: the table of powers of ten that strconv reads is laid. -/
import Derived.Test.YtlaohlcghdbjhaaDoorVec
import Derived.Test.YtlaohlcghdbjhaaDoorRaFmt
import Derived.Test.YtlaohlcghdbjhaaDoorJoinWalk
import Derived.Laws.AppendOwn
namespace Go.Proofs.YtlaohlcghdbjhaaDoor
open Go.RowKit
open Ve (R)

set_option maxRecDepth 100000 in
set_option maxHeartbeats 1000000 in
theorem spec_JoinB (g cap : Nat) (xs : List ByteArray) (sep : ByteArray) (hn : xs.length ≤ 1048576) (ht : total xs ≤ 67108864) (hs : sep.size ≤ 1048576) (w : World) (hg : g < w.heap.size)
    (hz : ∀ j x, xs[j]? = some x → w.cell? ⟨g, j, none⟩ = some (.string x)) :
    Calls Tryd.prog 43 #[.slice (some ⟨g, 0, none⟩) xs.length cap, .string sep] w (JoinPost xs sep w) := by
  obtain ⟨i0, hi, hz0, hz1, hz2⟩ := info_parts info_u8
  have HI := Lib.hid hi
  have HZ0 := Lib.hid hz0
  have HZ1 := Lib.hid hz1
  have HZ2 := Lib.hid hz2
  have Hz := Lib.hid hz
  clear hz hi hz0 hz1 hz2
  go_enter Tryd.func43, Tryd.ntmps43
  go_wp2_with fail
  go_loopw [5, 6] (fun v i wr => ∃ k : Nat, k ≤ xs.length ∧ i = .int .i64 k ∧ Hid (OwnBytes w.heap.size wr v (jp xs sep k)) ∧ Hid (Below w.heap.size w wr)) (fun _ i _ => xs.length - (intOf i).toNat)
  case atStart => exact ⟨0, Nat.zero_le _, rfl, ⟨World.ownsRow_made w #[] 0 (Nat.le_refl _) (Nat.zero_le _) rfl, fun e => by cases e⟩, (Below.refl _ _).alloc (Nat.le_refl _) _⟩
  case round =>
    obtain ⟨k, hk, rfl, hO, hB⟩ := hrel
    have hsz := hB.out.size
    by_cases hlt : k < xs.length
    · have hx : xs[k]? = some xs[k] := List.getElem?_eq_getElem hlt
      have hcell := (hB.out.cell (p := ⟨g, k, none⟩) hg).trans (Hz.out k _ hx)
      have hjl := jp_len xs sep k hk
      have hjl2 := total_le xs k
      have hjb : (jp xs sep k).length ≤ 67108864 + 1048576 * 1048576 := by
        have : k * sep.size ≤ 1048576 * 1048576 := Nat.mul_le_mul (by omega) hs
        omega
      have hxs : xs[k].size ≤ 67108864 := by
        have := total_next xs k hlt
        have hg : xs.getD k ByteArray.empty = xs[k] := by rw [List.getD_eq_getElem?_getD, hx]; rfl
        rw [hg] at this
        have := total_le xs (k + 1)
        omega
      clear hjl hjl2
      by_cases h0 : k = 0
      · subst h0
        have He : Hid (jp xs sep 1 = jp xs sep 0 ++ xs[0].data.toList) := by show _ = _; rw [jp_one xs sep _ hx, jp_zero]; rfl
        generalize xs[0] = x at *
        clear hx
        go_wp2_with (at_builtin; refine Lib.wpList_append_own_string _ rfl _ _ 22 9 rfl w.heap.size 5 i0 Tryd.underlying22 Tryd.underlying9 HI.out HZ0.out HZ1.out HZ2.out _ _ _ rfl hO.out.1 x rfl ?c1 ?c2 ?c3 ?_)
        case c1 => unfold maxLen; omega
        case c2 => omega
        case c3 => exact hsz
        intro v' w1 hown' hgrow hnil
        have Ho1 := Lib.hid (own_text hown' hO.out.2 hnil)
        have Hb1 := Lib.hid (hB.out.grown hgrow hsz (fun g hg => (hO.out.1.lt g hg).1))
        rw [← He.out] at Ho1
        clear hown' hgrow hnil
        go_wp2_with fail
        go_roundw
        case rel => exact ⟨1, by omega, by go_num, Ho1, Hb1⟩
        case measure => simp [intOf]; omega
      · have hpos : 0 < k := by omega
        have He : Hid (jp xs sep (k + 1) = jp xs sep k ++ sep.data.toList ++ xs[k].data.toList) := jp_next xs sep _ k hpos hx
        generalize xs[k] = x at *
        clear hx
        go_wp2_with (at_builtin; refine Lib.wpList_append_own_string _ rfl _ _ 22 9 rfl w.heap.size 5 i0 Tryd.underlying22 Tryd.underlying9 HI.out HZ0.out HZ1.out HZ2.out _ _ _ rfl hO.out.1 sep rfl ?c1 ?c2 ?c3 ?_)
        case c1 => unfold maxLen; omega
        case c2 => omega
        case c3 => exact hsz
        intro v' w1 hown' hgrow hnil
        have Ho1 := Lib.hid (own_text hown' hO.out.2 hnil)
        have hb1 := hB.out.grown hgrow hsz (fun g hg => (hO.out.1.lt g hg).1)
        have Hb1 := Lib.hid hb1
        have hsz1 := hb1.size
        have hcell1 := (hb1.cell (p := ⟨g, k, none⟩) hg).trans ((hB.out.cell (p := ⟨g, k, none⟩) hg).symm.trans hcell)
        have hlen1 : (jp xs sep k ++ sep.data.toList).length ≤ 67108864 + 1048576 * 1048576 + 1048576 := by
          rw [List.length_append]
          have : sep.data.toList.length = sep.size := by simp
          omega
        clear hown' hgrow hnil hcell hb1
        generalize jp xs sep k ++ sep.data.toList = l2 at *
        go_wp2_with (at_builtin; refine Lib.wpList_append_own_string _ rfl _ _ 22 9 rfl w.heap.size 5 i0 Tryd.underlying22 Tryd.underlying9 HI.out HZ0.out HZ1.out HZ2.out _ _ _ rfl Ho1.out.1 x rfl ?d1 ?d2 ?d3 ?_)
        case d1 => unfold maxLen; omega
        case d2 => omega
        case d3 => exact hsz1
        intro v2 w2 hown2 hgrow2 hnil2
        have Ho2 := Lib.hid (own_text hown2 Ho1.out.2 hnil2)
        have Hb2 := Lib.hid (Hb1.out.grown hgrow2 hsz1 (fun g hg => (Ho1.out.1.lt g hg).1))
        rw [← He.out] at Ho2
        clear hown2 hgrow2 hnil2
        go_wp2_with fail
        go_roundw
        case rel => exact ⟨k + 1, by omega, by go_num, Ho2, Hb2⟩
        case measure => simp [intOf]; omega
    · have he : k = xs.length := by omega
      subst he
      have ha := Lib.hid (jp_all xs sep)
      obtain ⟨g2, cap2, rfl, hcv⟩ := own_back hO.out
      go_wp2_with fail
      go_ret
      exact ⟨by rw [← ha.out]; rfl, hB⟩


theorem spec_Join0 (c : Nat) (sep : ByteArray) (w : World) : Calls Tryd.prog 43 #[.slice none 0 c, .string sep] w (JoinPost [] sep w) := by
  obtain ⟨i0, hi, hz0, hz1, hz2⟩ := info_parts info_u8
  clear hi hz0 hz1 hz2
  have HO : Hid (OwnBytes w.heap.size (w.alloc (.cells #[] 5)) (.slice (some ⟨w.heap.size, 0, none⟩) 0 0) []) := ⟨World.ownsRow_made w #[] 0 (Nat.le_refl _) (Nat.zero_le _) rfl, fun e => by cases e⟩
  go_enter Tryd.func43, Tryd.ntmps43
  go_wp2_with fail
  go_loop [5, 6] (fun v i => v = .slice (some ⟨w.heap.size, 0, none⟩) 0 0 ∧ i = .int .i64 0) (fun _ i => 5 - (intOf i).toNat)
  case atStart => exact ⟨rfl, rfl⟩
  case round =>
    obtain ⟨rfl, rfl⟩ := hrel
    obtain ⟨g2, cap2, he, hcv⟩ := own_back HO.out
    obtain ⟨rfl, rfl⟩ : w.heap.size = g2 ∧ 0 = cap2 := by
      injection he with h1 h2 h3
      injection h1 with h1
      injection h1 with h1
      exact ⟨h1, h3⟩
    clear he
    try simp only [List.length_nil] at hcv
    go_wp2_with fail
    go_ret
    exact ⟨rfl, (Below.refl _ _).alloc (Nat.le_refl _) _⟩
/-- A row of the call's own that holds the strings ss. -/
def OwnStrs (B : Nat) (w : World) (v : Value) (ss : List ByteArray) : Prop := w.ownsRow B 9 1 v ss.length (ss.map Value.string)
theorem OwnStrs.below {B : Nat} {w w' : World} {v : Value} {ss : List ByteArray} (h : OwnStrs B w v ss) (hb : Below w.heap.size w w') : OwnStrs B w' v ss :=
  World.ownsRow.kept h (row := none) ⟨hb.os, hb.tape, hb.output, hb.size, fun k hk _ => hb.block k hk⟩ (by cases v.ownBlock <;> simp)
theorem OwnStrs.more {B : Nat} {w' : World} {v' : Value} {ss : List ByteArray} {x : ByteArray} (h : w'.ownsRow B 9 1 v' (ss.length + 1) (ss.map Value.string ++ [.string x])) : OwnStrs B w' v' (ss ++ [x]) := by
  unfold OwnStrs
  simpa using h
theorem own_strs {B : Nat} {w : World} {v : Value} {ss : List ByteArray} (h : OwnStrs B w v ss) :
    (v = .slice none 0 0 ∧ ss = []) ∨ ∃ g cap, v = .slice (some ⟨g, 0, none⟩) ss.length cap ∧ ss.length ≤ cap ∧ g < w.heap.size ∧ ∀ j x, ss[j]? = some x → w.cell? ⟨g, j, none⟩ = some (.string x) := by
  have h' := h
  obtain ⟨h1, ⟨hv, hn⟩ | ⟨g, cap, cur, rfl, hg, hh, hc, hr⟩⟩ := h'
  · exact .inl ⟨hv, List.eq_nil_of_length_eq_zero hn⟩
  · refine .inr ⟨g, cap, rfl, hc, lt_of_at hh, fun j x hx => ?_⟩
    have hj : j < ss.length := (List.getElem?_eq_some_iff.1 hx).1
    rw [World.ownsRow.cellAt h j (by omega), List.getElem?_map, hx]
    rfl
theorem spec_JoinOwn (B : Nat) (v : Value) (ss : List ByteArray) (sep : ByteArray) (hn : ss.length ≤ 1048576) (ht : total ss ≤ 67108864) (hs : sep.size ≤ 1048576) (w : World) (h : OwnStrs B w v ss) : Calls Tryd.prog 43 #[v, .string sep] w (JoinPost ss sep w) := by
  rcases own_strs h with ⟨rfl, rfl⟩ | ⟨g, cap, rfl, _, hg, hc⟩
  · exact spec_Join0 0 sep w
  · exact spec_JoinB g cap ss sep hn ht hs w hg hc
theorem join_len (ss : List ByteArray) (sep : ByteArray) (hn : ss.length ≤ 1048576) (ht : total ss ≤ 67108864) (hs : sep.size ≤ 1048576) : (Lib.join (ss.map (·.data.toList)) sep.data.toList).length ≤ 140737488355328 := by
  have h1 := jp_len ss sep ss.length (Nat.le_refl _)
  rw [jp_all, List.take_length] at h1
  have : ss.length * sep.size ≤ 1048576 * 1048576 := Nat.mul_le_mul hn hs
  omega
theorem impl_JoinOwn (B : Nat) (v : Value) (ss : List ByteArray) (sep : ByteArray) (hn : ss.length ≤ 1048576) (ht : total ss ≤ 67108864) (hs : sep.size ≤ 1048576) (w : World) (h : OwnStrs B w v ss) : Calls Tryd.prog 41 #[v, .string sep] w (JoinPost ss sep w) := by
  rcases own_strs h with ⟨rfl, rfl⟩ | ⟨g, cap, rfl, hcap, hg, hc⟩
  · clear h
    go_enter Tryd.func41, Tryd.ntmps41
    go_wp2_with fail
    refine (Tryd.strings_Join_none none 0 sep w).mono ?_
    rintro e w1 ⟨rfl, rfl⟩
    go_wp2_with fail
    go_ret
    exact ⟨rfl, Below.refl _ _⟩
  · exact impl_Join1 g cap ss sep w hc hg (by omega) hcap (join_len ss sep hn ht hs)
def txtB (x : R) : ByteArray := ⟨(Ra.fmt x.1 x.2).toArray⟩
theorem fmt_short (n d : Int) : (Ra.fmt n d).length ≤ 60 := by
  rcases h : Ra.vld n d with _ | _
  · rw [Ra.fmt_no h]; decide
  · have v := Ra.vld_yes h
    have a1 := Lib.itoa_length_le n (by omega) (by omega)
    have a2 := Lib.itoa_length_le d (by omega) (by omega)
    rw [Ra.fmt_yes h]
    unfold Ra.txt
    split
    · omega
    · simp; omega
theorem total_short : ∀ xs : List R, total (xs.map txtB) ≤ xs.length * 60
  | [] => by simp [total]
  | x :: xs => by
    have h1 := total_short xs
    have h2 : (txtB x).size ≤ 60 := by simpa [txtB, ByteArray.size] using fmt_short x.1 x.2
    have h3 : total ((x :: xs).map txtB) = (txtB x).size + total (xs.map txtB) := by simp [total]
    rw [h3, List.length_cons, Nat.add_mul]
    omega
theorem take_text (xs : List R) (k : Nat) (hk : k < xs.length) : (xs.map txtB).take (k + 1) = (xs.map txtB).take k ++ [txtB (Ve.at_ xs k)] := by
  rw [List.take_succ_eq_append_getElem (by simpa using hk), List.getElem_map]
  have : xs[k] = Ve.at_ xs k := by
    have := Ve.at_get hk
    rw [List.getElem?_eq_getElem hk] at this
    exact Option.some.inj this
  rw [this]
set_option maxRecDepth 100000 in
set_option maxHeartbeats 2000000 in
theorem spec_FormatVector (B : Nat) (a : Option Addr) (c : Nat) (xs : List R) (hn : xs.length ≤ 1048576) (w : World) (hBw : B ≤ w.heap.size) (h1 : RatsIn B w a xs) :
    Calls Tryd.prog 18 #[.slice a xs.length c] w (JoinPost (xs.map txtB) ⟨#[32]⟩ w) := by
  have H1 := Lib.hid (h1.mono hBw)
  obtain ⟨i0, hi, hz0, hz1, hz2⟩ := info_parts info_str
  have HI := Lib.hid hi
  have HZ0 := Lib.hid hz0
  have HZ1 := Lib.hid hz1
  have HZ2 := Lib.hid hz2
  clear h1 hi hz0 hz1 hz2
  have HO1 : Hid (OwnStrs w.heap.size (w.alloc (.cells #[] 9)) (.slice (some ⟨w.heap.size, 0, none⟩) 0 0) ((xs.map txtB).take 0)) := World.ownsRow_made w #[] 0 (Nat.le_refl _) (Nat.zero_le _) rfl
  have HB1 := Lib.hid ((Below.refl w.heap.size w).alloc (Nat.le_refl _) (.cells #[] 9))
  go_enter Tryd.func18, Tryd.ntmps18
  go_wp2_with fail
  go_loopw [3, 4] (fun v i wr => ∃ k : Nat, k ≤ xs.length ∧ i = .int .i64 k ∧ Hid (OwnStrs w.heap.size wr v ((xs.map txtB).take k)) ∧ Hid (Below w.heap.size w wr)) (fun _ i _ => xs.length - (intOf i).toNat)
  case atStart => exact ⟨0, Nat.zero_le _, rfl, HO1, HB1⟩
  case round =>
    obtain ⟨k, hk, rfl, hO, hB⟩ := hrel
    have hsz := hB.out.size
    by_cases hlt : k < xs.length
    · obtain ⟨b, o, rfl, l1, p0, p1⟩ := (H1.out.below hB.out).at k hlt
      have He := Lib.hid (take_text xs k hlt)
      have hlen : ((xs.map txtB).take k).length ≤ k := by rw [List.length_take]; omega
      have HF := Lib.hid (spec_FormatRat (Ve.at_ xs k).1 (Ve.at_ xs k).2 wr)
      generalize Ve.at_ xs k = x at *
      generalize (xs.map txtB).take k = ls at *
      have Ht := Lib.hid (show txtB x = ⟨(Ra.fmt x.1 x.2).toArray⟩ from rfl)
      generalize Ra.fmt x.1 x.2 = tx at *
      go_wp2_with fail
      refine HF.out.mono ?_
      rintro e w2 ⟨rfl, hb2⟩
      have HB2 := Lib.hid (hB.out.trans (hb2.mono hsz))
      have hsz2 := HB2.out.size
      have Hown := Lib.hid (World.ownsRow.alloc (hO.out.below hb2) (.cells #[.string ⟨tx.toArray⟩] 9))
      clear hb2 HF
      go_wp2_with (at_builtin; refine wpList_append_own _ rfl _ _ 62 rfl w.heap.size 9 i0 (.string ⟨#[]⟩) 1 16 Tryd.underlying62 HI.out HZ0.out HZ1.out HZ2.out rfl (by decide) _ _ _ rfl Hown.out ⟨w2.heap.size, 0, none⟩ 1 1 [.string ⟨tx.toArray⟩] rfl rfl ?c1 ?c2 ?c3 ?c4 ?c5 ?_)
      case c1 =>
        intro j u hj
        match j, hj with
        | 0, hj => simp at hj; subst hj; simp [Addr.add]
      case c2 => intro u hu; simp at hu; subst hu; rfl
      case c3 => unfold maxLen; omega
      case c4 => omega
      case c5 => simp; omega
      intro v' w3 hown' hgrow _
      have hne := Hown.out.lt
      have Ho1 := Lib.hid (OwnStrs.more hown')
      have Hb1 := Lib.hid ((HB2.out.alloc hsz2 (.cells #[.string ⟨tx.toArray⟩] 9)).grown hgrow (by simp; omega) (fun g hg => (hne g hg).1))
      rw [← Ht.out, ← He.out] at Ho1
      clear hown' hgrow hne
      go_wp2_with fail
      go_roundw
      case rel => exact ⟨k + 1, by omega, by go_num, Ho1, Hb1⟩
      case measure => simp [intOf]; omega
    · have he : k = xs.length := by omega
      have Hf : Hid (OwnStrs w.heap.size wr u3 (xs.map txtB)) := by
        have h3 := hO.out
        rw [he, List.take_of_length_le (by simp)] at h3
        exact h3
      clear he
      have hT := total_short xs
      have hT2 : total (xs.map txtB) ≤ 67108864 := by omega
      have HJ := Lib.hid (spec_JoinOwn w.heap.size _ (xs.map txtB) ⟨#[32]⟩ (by simpa using hn) hT2 (by decide) wr Hf.out)
      clear hT hT2
      generalize xs.map txtB = ls at *
      go_wp2_with fail
      refine HJ.out.mono ?_
      rintro e w2 ⟨rfl, hb2⟩
      have HB2 := Lib.hid (hB.out.trans (hb2.mono hsz))
      clear hb2
      go_wp2_with fail
      go_ret
      exact ⟨rfl, HB2.out⟩
set_option maxRecDepth 100000 in
set_option maxHeartbeats 2000000 in
theorem impl_FormatVector (B : Nat) (a : Option Addr) (c : Nat) (xs : List R) (hn : xs.length ≤ 1048576) (w : World) (hpow : PowAt w) (hBw : B ≤ w.heap.size) (h1 : RatsIn B w a xs) :
    Calls Tryd.prog 17 #[.slice a xs.length c] w (JoinPost (xs.map txtB) ⟨#[32]⟩ w) := by
  have H1 := Lib.hid (h1.mono hBw)
  have HP := Lib.hid hpow
  obtain ⟨i0, hi, hz0, hz1, hz2⟩ := info_parts info_str
  have HI := Lib.hid hi
  have HZ0 := Lib.hid hz0
  have HZ1 := Lib.hid hz1
  have HZ2 := Lib.hid hz2
  clear h1 hi hz0 hz1 hz2 hpow
  have HO1 : Hid (OwnStrs w.heap.size w (.slice none 0 0) ((xs.map txtB).take 0)) := World.ownsRow_nil _ _ _ _
  have HB1 := Lib.hid (Below.refl w.heap.size w)
  go_enter Tryd.func17, Tryd.ntmps17
  go_wp2_with fail
  go_loopw [3, 8] (fun v i wr => ∃ k : Nat, k ≤ xs.length ∧ i = .int .i64 k ∧ Hid (OwnStrs w.heap.size wr v ((xs.map txtB).take k)) ∧ Hid (Below w.heap.size w wr)) (fun _ i _ => xs.length - (intOf i).toNat)
  case atStart => exact ⟨0, Nat.zero_le _, rfl, HO1, HB1⟩
  case round =>
    obtain ⟨k, hk, rfl, hO, hB⟩ := hrel
    have hsz := hB.out.size
    by_cases hlt : k < xs.length
    · obtain ⟨b, o, rfl, l1, p0, p1⟩ := (H1.out.below hB.out).at k hlt
      have He := Lib.hid (take_text xs k hlt)
      have hlen : ((xs.map txtB).take k).length ≤ k := by rw [List.length_take]; omega
      have HF := Lib.hid (impl_FormatRat (Ve.at_ xs k).1 (Ve.at_ xs k).2 (wr.alloc (.cells #[.int .i64 (Ve.at_ xs k).1, .int .i64 (Ve.at_ xs k).2] 26)) ((HP.out.below hB.out).alloc _))
      generalize Ve.at_ xs k = x at *
      generalize (xs.map txtB).take k = ls at *
      have Ht := Lib.hid (show txtB x = ⟨(Ra.fmt x.1 x.2).toArray⟩ from rfl)
      generalize Ra.fmt x.1 x.2 = tx at *
      go_wp2_with fail
      refine HF.out.mono ?_
      rintro e w2 ⟨rfl, hb2⟩
      have hb3 := ((Below.refl _ wr).alloc (Nat.le_refl _) (.cells #[.int .i64 x.1, .int .i64 x.2] 26)).trans (hb2.mono (by rw [size1]; omega))
      have HB2 := Lib.hid (hB.out.trans (hb3.mono hsz))
      have hsz2 := HB2.out.size
      have Hown := Lib.hid (World.ownsRow.alloc (hO.out.below hb3) (.cells #[.string ⟨tx.toArray⟩] 9))
      clear hb2 hb3 HF
      go_wp2_with (at_builtin; refine wpList_append_own _ rfl _ _ 62 rfl w.heap.size 9 i0 (.string ⟨#[]⟩) 1 16 Tryd.underlying62 HI.out HZ0.out HZ1.out HZ2.out rfl (by decide) _ _ _ rfl Hown.out ⟨w2.heap.size, 0, none⟩ 1 1 [.string ⟨tx.toArray⟩] rfl rfl ?c1 ?c2 ?c3 ?c4 ?c5 ?_)
      case c1 =>
        intro j u hj
        match j, hj with
        | 0, hj => simp at hj; subst hj; simp [Addr.add]
      case c2 => intro u hu; simp at hu; subst hu; rfl
      case c3 => unfold maxLen; omega
      case c4 => omega
      case c5 => simp; omega
      intro v' w3 hown' hgrow _
      have hne := Hown.out.lt
      have Ho1 := Lib.hid (OwnStrs.more hown')
      have Hb1 := Lib.hid ((HB2.out.alloc hsz2 (.cells #[.string ⟨tx.toArray⟩] 9)).grown hgrow (by simp; omega) (fun g hg => (hne g hg).1))
      rw [← Ht.out, ← He.out] at Ho1
      clear hown' hgrow hne
      go_wp2_with fail
      go_roundw
      case rel => exact ⟨k + 1, by omega, by go_num, Ho1, Hb1⟩
      case measure => simp [intOf]; omega
    · have he : k = xs.length := by omega
      have Hf : Hid (OwnStrs w.heap.size wr u3 (xs.map txtB)) := by
        have h3 := hO.out
        rw [he, List.take_of_length_le (by simp)] at h3
        exact h3
      clear he
      have hT := total_short xs
      have hT2 : total (xs.map txtB) ≤ 67108864 := by omega
      have HJ := Lib.hid (impl_JoinOwn w.heap.size _ (xs.map txtB) ⟨#[32]⟩ (by simpa using hn) hT2 (by decide) wr Hf.out)
      clear hT hT2
      generalize xs.map txtB = ls at *
      go_wp2_with fail
      refine HJ.out.mono ?_
      rintro e w2 ⟨rfl, hb2⟩
      have HB2 := Lib.hid (hB.out.trans (hb2.mono hsz))
      clear hb2
      go_wp2_with fail
      go_ret
      exact ⟨rfl, HB2.out⟩
end Go.Proofs.YtlaohlcghdbjhaaDoor
