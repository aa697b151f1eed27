/- FormatCoalition on both sides: the text of the coalition. -/
import Derived.Test.YtambneapofaclaaGreatDoorCoMem
import Derived.Laws.BytesString
import Derived.Laws.Concat
import Derived.Laws.IdiomStrings
import Derived.Lib.Strings
namespace Go.Proofs.YtambneapofaclaaGreatDoor
open Go.RowKit

theorem info_u8 : (Tryz.prog.info? 5).map (fun i => (i.zero, i.size, i.bytes)) = some (some (.int .u8 0), 1, 1) := by kernel_rfl
/-- A row of the call's own that holds these bytes. -/
def OwnB (B : Nat) (w : World) (v : Value) (l : List UInt8) : Prop := w.ownsRow B 5 1 v l.length (l.map fun b => Value.int .u8 b.toNat)
theorem OwnB.more {B : Nat} {w' : World} {v' : Value} {l : List UInt8} {b : UInt8} {x : Int} (hx : x = (b.toNat : Int)) (h : w'.ownsRow B 5 1 v' (l.length + 1) ((l.map fun b => Value.int .u8 b.toNat) ++ [.int .u8 x])) : OwnB B w' v' (l ++ [b]) := by
  subst hx
  unfold OwnB
  simpa using h
theorem OwnB.back {B : Nat} {w : World} {v : Value} {l : List UInt8} (h : OwnB B w v l) (hl : l ≠ []) :
    ∃ g cap, v = .slice (some ⟨g, 0, none⟩) l.length cap ∧ (convert 22 9 v).run Tryz.prog w = .ok (.string ⟨l.toArray⟩) w := by
  have h' := h
  obtain ⟨h1, h2 | ⟨g, cap, cur, rfl, hg, hh, hr⟩⟩ := h'
  · exact absurd (List.eq_nil_of_length_eq_zero h2.2) hl
  · refine ⟨g, cap, rfl, run_convert_bytes_back _ 22 9 5 ⟨g, 0, none⟩ cap l Tryz.underlying22 Tryz.underlying5 Tryz.underlying9 (fun j hj => ?_)⟩
    exact World.ownsRow.cells h (g := g) rfl j (.int .u8 (l[j].toNat : Int)) (by simp [hj])
def TextPost (s : Int) (w : World) (e : Ending) (w' : World) : Prop := e = .returned (.string (Co.text s)) ∧ Below w.heap.size w w'
theorem take_next {xs : List Int} {j : Nat} (h : j < xs.length) : (xs.take (j + 1)).map Co.letter = (xs.take j).map Co.letter ++ [Co.letter xs[j]] := by
  rw [List.take_succ_eq_append_getElem h, List.map_append]; rfl

theorem cat_letter (l : List UInt8) (k : Nat) (h : k < 5) : (⟨l.toArray⟩ ++ (⟨#[97, 98, 99, 100, 101]⟩ : ByteArray).extract k (k + 1) : ByteArray) = ⟨(l ++ [Co.letter (k : Int)]).toArray⟩ := by
  have e : ((⟨#[97, 98, 99, 100, 101]⟩ : ByteArray).extract k (k + 1)) = ⟨#[Co.letter (k : Int)]⟩ := by
    match k, h with
    | 0, _ => rfl
    | 1, _ => rfl
    | 2, _ => rfl
    | 3, _ => rfl
    | 4, _ => rfl
  rw [e]
  apply ByteArray.ext
  simp
theorem letter_at (m : Nat) (h : m < 5) (hz : m < (⟨#[97, 98, 99, 100, 101]⟩ : ByteArray).size) : (((⟨#[97, 98, 99, 100, 101]⟩ : ByteArray)[m]'hz).toNat : Int) = ((Co.letter (m : Int)).toNat : Int) := by
  match m, h with
  | 0, _ => rfl
  | 1, _ => rfl
  | 2, _ => rfl
  | 3, _ => rfl
  | 4, _ => rfl

set_option maxRecDepth 100000 in
set_option maxHeartbeats 2000000 in
theorem impl_FormatCoalition (s : Int) (w : World) : Calls Tryz.prog 21 #[.int .i64 s] w (TextPost s w) := by
  rcases hg : Co.good s with _ | _
  · have Ht := Lib.hid (Co.text_bad hg)
    have Hg := Lib.hid hg
    clear hg
    go_enter Tryz.func21, Tryz.ntmps21
    go_wp2_with fail
    refine (impl_isCoalition s false Hg.out w).mono ?_
    rintro e w1 ⟨rfl, rfl⟩
    go_wp2_with fail
    go_ret
    exact ⟨by rw [Ht.out]; rfl, Below.refl _ _⟩
  · by_cases h0 : s = 0
    · subst h0
      have Hg := Lib.hid hg
      clear hg
      go_enter Tryz.func21, Tryz.ntmps21
      go_wp2_with fail
      refine (impl_isCoalition 0 true Hg.out w).mono ?_
      rintro e w1 ⟨rfl, rfl⟩
      go_wp2_with fail
      go_ret
      exact ⟨by rw [Co.text_zero]; rfl, Below.refl _ _⟩
    · have Ht := Lib.hid (Co.text_pos hg h0)
      have Hl := Lib.hid (Co.lets_ne hg h0)
      have hm := impl_MembersOf s
      have Hx := Lib.hid (Co.mem_bd s 5)
      have hxl := Co.mem_len s 5
      have Hxs := Lib.hid (show Co.lets s 5 = (Co.mem s 5).map Co.letter from rfl)
      rw [show memR s = Co.mem s 5 by unfold memR; rw [hg]; rfl] at hm
      have HM := Lib.hid hm
      have e0 : (s == 0) = false := by rw [beq_eq_false_iff_ne]; exact h0
      have Hg := Lib.hid hg
      clear hg h0 hm
      generalize Co.mem s 5 = xs at *
      obtain ⟨i0, hi, hz0, hz1, hz2⟩ := info_parts info_u8
      have HI := Lib.hid hi
      have HZ0 := Lib.hid hz0
      have HZ1 := Lib.hid hz1
      have HZ2 := Lib.hid hz2
      clear hi hz0 hz1 hz2
      go_enter Tryz.func21, Tryz.ntmps21
      go_wp2_with fail
      refine (impl_isCoalition s true Hg.out w).mono ?_
      rintro e w1 ⟨rfl, rfl⟩
      go_wp2_with fail
      refine (HM.out w).mono ?_
      rintro e w1 ⟨v, rfl, ho1, hb1⟩
      obtain ⟨a, c, rfl, hr, ha, _⟩ := own_reads ho1
      have Hr := Lib.hid hr
      have Ha := Lib.hid ha
      have Hb1 := Lib.hid hb1
      clear ho1 hr ha hb1
      go_wp2_with fail
      go_loopw [3, 5, 14] (fun v _ i wr => ∃ (k : Nat), k ≤ xs.length ∧ i = .int .i64 k ∧ Hid (OwnB w1.heap.size wr v ((xs.take k).map Co.letter)) ∧ Hid (Below w1.heap.size w1 wr)) (fun _ _ i _ => xs.length - (intOf i).toNat)
      case atStart => exact ⟨0, Nat.zero_le _, rfl, World.ownsRow_nil _ _ _ _, Below.refl _ _⟩
      case round =>
        obtain ⟨k, hk, rfl, hO, hB⟩ := hrel
        by_cases hlt : k < xs.length
        · have hbx := Hx.out xs[k] (List.getElem_mem hlt)
          obtain ⟨b, o, rfl, hc⟩ := (Hr.out.below (fun p hp => (Ha.out p hp).2) hB.out).at k hlt
          have He := Lib.hid (take_next hlt)
          have hll : ((xs.take k).map Co.letter).length ≤ 5 := by simp; omega
          have hsz := hB.out.size
          obtain ⟨hx0, hx1⟩ := hbx
          generalize xs[k] = x at *
          generalize (xs.take k).map Co.letter = l at *
          obtain ⟨m, rfl⟩ := Int.eq_ofNat_of_zero_le hx0
          have hm5 : m < 5 := by omega
          have hmz : m < (⟨#[97, 98, 99, 100, 101]⟩ : ByteArray).size := hm5
          have Hlt := Lib.hid (letter_at m hm5 hmz)
          have Hown := Lib.hid (World.ownsRow.alloc hO.out (.cells #[.int .u8 ((⟨#[97, 98, 99, 100, 101]⟩ : ByteArray)[m]'hmz).toNat] 5))
          clear hx0 hx1
          go_wp2_with (at_builtin; refine wpList_append_own _ rfl _ _ 22 rfl w1.heap.size 5 i0 (.int .u8 0) 1 1 Tryz.underlying22 HI.out HZ0.out HZ1.out HZ2.out rfl (by decide) _ _ _ rfl Hown.out ⟨wr.heap.size, 0, none⟩ 1 1 [.int .u8 ((⟨#[97, 98, 99, 100, 101]⟩ : ByteArray)[m]'hmz).toNat] rfl rfl ?c1 ?c2 ?c3 ?c4 ?c5 ?_)
          case c1 =>
            intro j u hj
            match j, hj with
            | 0, hj => simp at hj; subst hj; simp [Addr.add]
          case c2 => intro u hu; simp at hu; subst hu; rfl
          case c3 => unfold maxLen; omega
          case c4 => omega
          case c5 => simp; omega
          intro v' w2 hown' hgrow _
          have Ho1 := Lib.hid (OwnB.more Hlt.out hown')
          have Hb2 := Lib.hid ((hB.out.alloc hsz _).grown hgrow (by simp; omega) (fun g hg => (Hown.out.lt g hg).1))
          rw [← He.out] at Ho1
          clear hown' hgrow
          go_wp2_with fail
          go_roundw
          case rel => exact ⟨k + 1, by omega, by go_num, Ho1, Hb2⟩
          case measure => simp [intOf]; omega
        · have he : k = xs.length := by omega
          have hO2 := hO.out
          rw [he, List.take_length, ← Hxs.out] at hO2
          obtain ⟨g2, cap2, rfl, hcv⟩ := OwnB.back hO2 Hl.out
          have Hb2 := Lib.hid (Hb1.out.trans (hB.out.mono Hb1.out.size))
          clear hO2 he
          go_wp2_with fail
          go_ret
          exact ⟨by rw [Ht.out]; rfl, Hb2⟩

set_option maxRecDepth 100000 in
set_option maxHeartbeats 2000000 in
theorem spec_FormatCoalition (s : Int) (w : World) : Calls Tryz.prog 25 #[.int .i64 s] w (TextPost s w) := by
  rcases hg : Co.good s with _ | _
  · have Ht := Lib.hid (Co.text_bad hg)
    have Hg := Lib.hid hg
    clear hg
    go_enter Tryz.func25, Tryz.ntmps25
    go_wp2_with fail
    refine (spec_l2Good s false Hg.out w).mono ?_
    rintro e w1 ⟨rfl, rfl⟩
    go_wp2_with fail
    go_ret
    exact ⟨by rw [Ht.out]; rfl, Below.refl _ _⟩
  · have hs1 : s ≤ 9223372036854775807 := by have := Co.good_yes hg; omega
    have Hg := Lib.hid hg
    clear hg
    go_enter Tryz.func25, Tryz.ntmps25
    go_wp2_with fail
    refine (spec_l2Good s true Hg.out w).mono ?_
    rintro e w1 ⟨rfl, rfl⟩
    go_wp2_with fail
    go_loop [3, 4] (fun o i => ∃ (k : Nat) (l : List UInt8), k ≤ 5 ∧ l.length ≤ 5 ∧ i = .int .i64 k ∧ o = .string ⟨l.toArray⟩ ∧ Hid (l = Co.lets s k)) (fun _ i => 5 - (intOf i).toNat)
    case atStart => exact ⟨0, [], Nat.zero_le _, by decide, rfl, rfl, rfl⟩
    case round =>
      obtain ⟨k, l, hk, hl, rfl, rfl, hL⟩ := hrel
      by_cases hlt : k < 5
      · rcases hh : Co.has s k with _ | _
        · have He := Lib.hid (show l = Co.lets s (k + 1) by rw [hL.out, Co.lets_no hh])
          have Hh := Lib.hid hh
          clear hh
          go_wp2_with fail
          refine (spec_HasPlayer s hs1 k hlt false Hh.out w).mono ?_
          rintro e w1 ⟨rfl, rfl⟩
          go_wp2_with fail
          go_round
          case rel => exact ⟨k + 1, l, by omega, hl, by go_num, rfl, He⟩
          case measure => simp [intOf]; omega
        · have He := Lib.hid (show l ++ [Co.letter k] = Co.lets s (k + 1) by rw [hL.out, Co.lets_yes hh])
          have hl2 : (l ++ [Co.letter k]).length ≤ 5 := by rw [He.out]; have := Co.lets_len s (k + 1); omega
          have Hh := Lib.hid hh
          clear hh
          go_wp2_with fail
          refine (spec_HasPlayer s hs1 k hlt true Hh.out w).mono ?_
          rintro e w1 ⟨rfl, rfl⟩
          go_wp2_with fail
          go_round
          case rel => exact ⟨k + 1, l ++ [Co.letter k], by omega, hl2, by go_num, by rw [cat_letter l k hlt], He⟩
          case measure => simp [intOf]; omega
      · have he : k = 5 := by omega
        subst he
        by_cases h0 : s = 0
        · have hl0 : l = [] := by rw [hL.out, h0]; decide
          subst hl0
          have Hs := Lib.hid h0
          clear h0
          go_wp2_with fail
          go_ret
          exact ⟨by rw [Hs.out, Co.text_zero]; rfl, Below.refl _ _⟩
        · have hl0 : l ≠ [] := by rw [hL.out]; exact Co.lets_ne Hg.out h0
          have Hs := Lib.hid (Co.text_pos Hg.out h0)
          clear h0
          obtain ⟨y, r, rfl⟩ := List.exists_cons_of_ne_nil hl0
          go_wp2_with fail
          go_ret
          exact ⟨by rw [Hs.out, ← hL.out]; rfl, Below.refl _ _⟩
end Go.Proofs.YtambneapofaclaaGreatDoor
