/- The walk of FnCoalitions: whatever the code, the law returns true. -/
import Derived.Test.YtkaelmankhepdaaCoLaws
import Derived.Test.YtkaelmankhepdaaCoParse
import Derived.Test.YtkaelmankhepdaaIntsSame
import Derived.Test.YtkaelmankhepdaaCoMemLaw
import Derived.Test.YtkaelmankhepdaaBig
import Derived.Test.YtkaelmankhepdaaCoDraw
import Derived.Deep.DeepCutAuto
namespace Go.Proofs.Ytkaelmankhepdaa
open Go.RowKit

theorem size_all : ∀ a b : Fin 32, Co.size (Co.uni (a.val : Int) (b.val : Int) 5) 5 + Co.size (Co.ovl (a.val : Int) (b.val : Int) 5) 5 = Co.size (a.val : Int) 5 + Co.size (b.val : Int) 5 := by decide +kernel
theorem sub_uni : ∀ a b : Fin 32, Co.sub (a.val : Int) (b.val : Int) 5 = true → Co.uni (a.val : Int) (b.val : Int) 5 = (b.val : Int) ∧ Co.ovl (a.val : Int) (b.val : Int) 5 = (a.val : Int) := by decide +kernel
theorem pair_facts (a b : Int) (ha : a ≤ 9223372036854775807) (hb : b ≤ 9223372036854775807) : ∃ (u o : Int) (r : Bool),
    (∀ w, Calls Try.prog 15 #[.int .i64 a, .int .i64 b] w fun e w' => e = .returned (.int .i64 u) ∧ w = w') ∧ (∀ w, Calls Try.prog 17 #[.int .i64 a, .int .i64 b] w fun e w' => e = .returned (.int .i64 u) ∧ w = w') ∧
    (∀ w, Calls Try.prog 16 #[.int .i64 a, .int .i64 b] w fun e w' => e = .returned (.int .i64 o) ∧ w = w') ∧ (∀ w, Calls Try.prog 18 #[.int .i64 a, .int .i64 b] w fun e w' => e = .returned (.int .i64 o) ∧ w = w') ∧
    (∀ w, Calls Try.prog 19 #[.int .i64 a, .int .i64 b] w fun e w' => e = .returned (.bool r) ∧ w = w') ∧ (∀ w, Calls Try.prog 20 #[.int .i64 a, .int .i64 b] w fun e w' => e = .returned (.bool r) ∧ w = w') ∧
    (r = true → u = b ∧ o = a) ∧ (0 ≤ a ∧ 0 ≤ b ∧ a < 32 ∧ b < 32 → Co.size u 5 + Co.size o 5 = Co.size a 5 + Co.size b 5) := by
  by_cases h : Co.good a = true ∧ Co.good b = true
  · obtain ⟨n, rfl⟩ := Co.good_fin h.1
    obtain ⟨m, rfl⟩ := Co.good_fin h.2
    refine ⟨_, _, subR (n.val : Int) (m.val : Int), impl_Union _ _ h.1 h.2, spec_Union _ _ h.1 h.2, impl_Overlap _ _ h.1 h.2, spec_Overlap _ _ h.1 h.2, impl_IsSubset _ _ h.1 h.2 _ (by unfold subR; rw [h.1, h.2]; rfl), spec_IsSubset _ _ ha hb, fun hr => ?_, fun _ => size_all n m⟩
    refine sub_uni n m ?_
    unfold subR at hr
    rw [h.1, h.2] at hr
    exact hr
  · have hn := not_both h
    have e : subR a b = false := by unfold subR; rcases hn with h | h <;> rw [h] <;> simp
    refine ⟨0, 0, false, impl_Union_bad a b hn, spec_Union_bad a b hn, impl_Overlap_bad a b hn, spec_Overlap_bad a b hn, impl_IsSubset_bad a b hn, ?_, (fun h => by cases h), fun hr => ?_⟩
    · rw [← e]; exact spec_IsSubset a b ha hb
    · exfalso
      apply h
      unfold Co.good
      exact ⟨decide_eq_true (by omega), decide_eq_true (by omega)⟩

theorem First.uniq {t : ByteArray} {n m : Nat} (h : First t n) (k : m < 32) (e : Co.text (m : Int) = t) : n = m := by
  have h1 : Co.text (n : Int) = Co.text (m : Int) := h.2.1.trans e.symm
  have g1 : Co.good (n : Int) = true := decide_eq_true (by have := h.1; omega)
  have g2 : Co.good (m : Int) = true := decide_eq_true (by omega)
  have := Co.text_inj g1 g2 h1
  omega
theorem parse_text {s : Int} (h : Co.good s = true) : ParseR (Co.text s) (s, true) := by
  obtain ⟨n, rfl⟩ := Co.good_fin h
  refine .inl ⟨n.val, ⟨n.isLt, rfl, fun m hm e => ?_⟩, rfl⟩
  have g2 : Co.good (m : Int) = true := decide_eq_true (by have := n.isLt; omega)
  have := Co.text_inj g2 h e
  omega
theorem parse_empty {s : Int} (h : Co.good s = false) : ParseR (Co.text s) (0, false) := by
  refine .inr ⟨fun m hm e => ?_, rfl⟩
  rw [Co.text_bad h] at e
  have h1 := Co.text_some' ⟨m, hm⟩
  have h2 : (Co.text (m : Int)).data.size ≠ 0 := h1
  rw [e] at h2
  exact h2 rfl
theorem text_ne {s : Int} (h : Co.good s = true) : ∃ y r, Co.text s = ⟨(y :: r : List UInt8).toArray⟩ := by
  obtain ⟨n, rfl⟩ := Co.good_fin h
  have h1 := Co.text_some' n
  rcases hl : (Co.text (n.val : Int)).data.toList with _ | ⟨y, r⟩
  · have : (Co.text (n.val : Int)).data.size = 0 := by rw [← Array.length_toList, hl]; rfl
    exact absurd this h1
  · exact ⟨y, r, by apply ByteArray.ext; show _ = (y :: r).toArray; rw [← hl]⟩

namespace fnCoalitions
set_option maxRecDepth 100000 in
set_option maxHeartbeats 4000000 in
theorem walk0 (a : Option Addr) (len cap : Nat) (w : World) (hcode : CodeAt w.heap.size w a len) :
    Calls Try.prog 3 #[.slice a len cap] w fun e w' => e = .returned (.bool true) ∧ Below w.heap.size w w' := by
  have Hc := Lib.hid hcode
  clear hcode
  by_cases hbig : 1048576 < len
  · go_enter Try.func3, Try.ntmps3
    go_wp2_with fail
    refine (big_yes a len cap hbig w).mono ?_
    rintro e w1 ⟨rfl, rfl⟩
    go_wp2_with fail
    go_ret
    exact ⟨rfl, Below.refl _ _⟩
  · go_enter Try.func3, Try.ntmps3
    go_wp2_with fail
    refine (big_no a len cap (by omega) w).mono ?_
    rintro e w1 ⟨rfl, rfl⟩
    go_wp2_with fail
    refine (spec_DrawIsSubset a len cap w Hc.out).mono ?_
    rintro e w1 ⟨x, y, rfl, hx0, hx1, hy0, hy1, hb1⟩
    have Hb1 := Lib.hid hb1
    clear hb1
    obtain ⟨u, o, r, f1, f2, f3, f4, f5, f6, hr, hsz⟩ := pair_facts x y (by omega) (by omega)
    have F1 := Lib.hid f1
    have F2 := Lib.hid f2
    have F3 := Lib.hid f3
    have F4 := Lib.hid f4
    have F5 := Lib.hid f5
    have F6 := Lib.hid f6
    have Hr := Lib.hid hr
    have Hsz := Lib.hid hsz
    clear f1 f2 f3 f4 f5 f6 hr hsz
    go_wp2_with fail
    refine (F1.out w1).mono ?_
    rintro e w2 ⟨rfl, rfl⟩
    go_wp2_with fail
    refine (F3.out w1).mono ?_
    rintro e w2 ⟨rfl, rfl⟩
    go_upto_region 6 with (fail)
    go_cut [68] (fun q wx => q = .bool false ∧ w1 = wx)
    case first =>
      cases r with
      | true =>
        obtain ⟨rfl, rfl⟩ := Hr.out rfl
        go_wp2_with fail
        refine (F2.out w1).mono ?_
        rintro e w2 ⟨rfl, rfl⟩
        go_wp2_with fail
        refine (F4.out w1).mono ?_
        rintro e w2 ⟨rfl, rfl⟩
        go_wp2_with fail
        refine (F5.out w1).mono ?_
        rintro e w2 ⟨rfl, rfl⟩
        go_wp2_with fail
        refine (F6.out w1).mono ?_
        rintro e w2 ⟨rfl, rfl⟩
        go_wp2_with fail
        refine (F5.out w1).mono ?_
        rintro e w2 ⟨rfl, rfl⟩
        go_wp2_with fail
        go_meet
        exact ⟨rfl, rfl⟩
      | false =>
        go_wp2_with fail
        refine (F2.out w1).mono ?_
        rintro e w2 ⟨rfl, rfl⟩
        go_wp2_with fail
        refine (F4.out w1).mono ?_
        rintro e w2 ⟨rfl, rfl⟩
        go_wp2_with fail
        refine (F5.out w1).mono ?_
        rintro e w2 ⟨rfl, rfl⟩
        go_wp2_with fail
        refine (F6.out w1).mono ?_
        rintro e w2 ⟨rfl, rfl⟩
        go_wp2_with fail
        refine (F5.out w1).mono ?_
        rintro e w2 ⟨rfl, rfl⟩
        go_wp2_with fail
        go_meet
        exact ⟨rfl, rfl⟩
    case rest =>
      obtain ⟨rfl, rfl⟩ := hcut
      clear F1 F2 F3 F4 F5 F6 Hr
      go_upto_region 8 with (fail)
      go_cut [95] (fun q wx => q = .bool false ∧ w1 = wx)
      case first =>
        by_cases h1 : 0 ≤ x
        · by_cases h2 : 0 ≤ y
          · by_cases h3 : x < 32
            · by_cases h4 : y < 32
              · have hs := Hsz.out ⟨h1, h2, h3, h4⟩
                have b1 := Co.size_bd u 5
                have b2 := Co.size_bd o 5
                have b3 := Co.size_bd x 5
                have b4 := Co.size_bd y 5
                have Su := Lib.hid (fun w => impl_SizeOf u w)
                have So := Lib.hid (fun w => impl_SizeOf o w)
                have Sx := Lib.hid (fun w => impl_SizeOf x w)
                have Sy := Lib.hid (fun w => impl_SizeOf y w)
                have d1 : decide (0 ≤ x) = true := decide_eq_true h1
                have d2 : decide (0 ≤ y) = true := decide_eq_true h2
                have d3 : decide (x < 32) = true := decide_eq_true h3
                have d4 : decide (y < 32) = true := decide_eq_true h4
                generalize Co.size u 5 = su at *
                generalize Co.size o 5 = so at *
                generalize Co.size x 5 = sx at *
                generalize Co.size y 5 = sy at *
                obtain ⟨b10, b11⟩ := b1
                obtain ⟨b20, b21⟩ := b2
                obtain ⟨b30, b31⟩ := b3
                obtain ⟨b40, b41⟩ := b4
                have hne : (su + so != sx + sy) = false := by rw [hs]; simp
                have Hs := Lib.hid hs
                clear hs
                go_wp2_with fail
                refine (Su.out w1).mono ?_
                rintro e w2 ⟨rfl, rfl⟩
                go_wp2_with fail
                refine (So.out w1).mono ?_
                rintro e w2 ⟨rfl, rfl⟩
                go_wp2_with fail
                refine (Sx.out w1).mono ?_
                rintro e w2 ⟨rfl, rfl⟩
                go_wp2_with fail
                refine (Sy.out w1).mono ?_
                rintro e w2 ⟨rfl, rfl⟩
                go_wp2_with fail
                go_meet
                exact ⟨rfl, rfl⟩
              · have d1 : decide (0 ≤ x) = true := decide_eq_true h1
                have d2 : decide (0 ≤ y) = true := decide_eq_true h2
                have d3 : decide (x < 32) = true := decide_eq_true h3
                have d4 : decide (y < 32) = false := decide_eq_false h4
                go_wp2_with fail
                go_meet
                exact ⟨rfl, rfl⟩
            · have d1 : decide (0 ≤ x) = true := decide_eq_true h1
              have d2 : decide (0 ≤ y) = true := decide_eq_true h2
              have d3 : decide (x < 32) = false := decide_eq_false h3
              go_wp2_with fail
              go_meet
              exact ⟨rfl, rfl⟩
          · have d1 : decide (0 ≤ x) = true := decide_eq_true h1
            have d2 : decide (0 ≤ y) = false := decide_eq_false h2
            go_wp2_with fail
            go_meet
            exact ⟨rfl, rfl⟩
        · have d1 : decide (0 ≤ x) = false := decide_eq_false h1
          go_wp2_with fail
          go_meet
          exact ⟨rfl, rfl⟩
      case rest =>
        obtain ⟨rfl, rfl⟩ := hcut
        clear Hsz
        go_wp2_with fail
        refine (spec_DrawFormatCoalition a len cap w1 ((Hc.out.below Hb1.out).mono Hb1.out.size)).mono ?_
        rintro e w2 ⟨s, rfl, hs0, hs1, hb2⟩
        have Hb2 := Lib.hid (Hb1.out.trans (hb2.mono Hb1.out.size))
        clear hb2
        go_wp2_with fail
        refine (impl_FormatCoalition s w2).mono ?_
        rintro e w3 ⟨rfl, hb3⟩
        have Hb3 := Lib.hid (Hb2.out.trans (hb3.mono Hb2.out.size))
        clear hb3
        obtain ⟨g, n0, hg, hpt, hn0⟩ : ∃ (g : Bool) (n0 : Int), Co.good s = g ∧ ParseR (Co.text s) (n0, g) ∧ (g = true → n0 = s) := by
          rcases hg : Co.good s with _ | _
          · exact ⟨false, 0, rfl, parse_empty hg, fun h => by cases h⟩
          · exact ⟨true, s, rfl, parse_text hg, fun _ => rfl⟩
        have Hg := Lib.hid hg
        have Hpt := Lib.hid hpt
        have Hn0 := Lib.hid hn0
        clear hg hpt hn0
        go_wp2_with fail
        refine (impl_ParseCoalition (Co.text s) _ Hpt.out w3).mono ?_
        rintro e w4 ⟨rfl, hb4⟩
        have Hb4 := Lib.hid (Hb3.out.trans (hb4.mono Hb3.out.size))
        clear hb4
        go_wp2_with fail
        refine (impl_MembersOf s w4).mono ?_
        rintro e w5 ⟨v, rfl, ho5, hb5⟩
        obtain ⟨a5, c5, rfl, hr5, ha5, _⟩ := own_reads ho5
        have Hr5 := Lib.hid hr5
        have Ha5 := Lib.hid ha5
        have Hb5 := Lib.hid (Hb4.out.trans (hb5.mono Hb4.out.size))
        clear ho5 hr5 ha5 hb5
        go_wp2_with fail
        refine (spec_DrawParseCoalition a len cap w5 ((Hc.out.below Hb5.out).mono Hb5.out.size)).mono ?_
        rintro e w6 ⟨t, rfl, ht, hb6⟩
        have Hb6 := Lib.hid (Hb5.out.trans (hb6.mono Hb5.out.size))
        have Hr6 := Lib.hid (Hr5.out.below (fun p hp => (Ha5.out p hp).2) hb6)
        have Ha6 : Hid (∀ p, a5 = some p → p.block < w6.heap.size) := fun p hp => Nat.lt_of_lt_of_le (Ha5.out p hp).2 hb6.size
        clear hb6 Hr5 Ha5
        obtain ⟨⟨n, b⟩, hpr⟩ := parse_some t
        have Hpr := Lib.hid hpr
        have Hback : Hid (b = true → 0 ≤ n ∧ n ≤ 31 ∧ Co.text n = t) := by
          intro hb
          rcases hpr with ⟨m, hm, h⟩ | ⟨_, h⟩
          · injection h with h1 h2; subst h1
            exact ⟨by omega, by have := hm.1; omega, hm.2.1⟩
          · injection h with h1 h2; subst h2; cases hb
        clear hpr
        go_wp2_with fail
        refine (impl_ParseCoalition t _ Hpr.out w6).mono ?_
        rintro e w7 ⟨rfl, hb7⟩
        have Hb7 := Lib.hid (Hb6.out.trans (hb7.mono Hb6.out.size))
        have Hr7 := Lib.hid (Hr6.out.below Ha6.out hb7)
        have Ha7 : Hid (∀ p, a5 = some p → p.block < w7.heap.size) := fun p hp => Nat.lt_of_lt_of_le (Ha6.out p hp) hb7.size
        clear hb7 Hr6 Ha6
        go_wp2_with fail
        refine (spec_ParseCoalition t _ Hpr.out w7).mono ?_
        rintro e w8 ⟨rfl, hb8⟩
        have Hb8 := Lib.hid (Hb7.out.trans (hb8.mono Hb7.out.size))
        have Hr8 := Lib.hid (Hr7.out.below Ha7.out hb8)
        have Ha8 : Hid (∀ p, a5 = some p → p.block < w8.heap.size) := fun p hp => Nat.lt_of_lt_of_le (Ha7.out p hp) hb8.size
        clear hb8 Hr7 Ha7
        go_upto_region 17 with (fail)
        go_cut [8, 162] (fun _ q wx => q = .bool false ∧ Hid (Below w.heap.size w wx))
        case first =>
          have hml := memR_len s
          have Hmc : Hid (Co.climb (memR s)) := by
            show Co.climb (memR s)
            unfold memR
            split
            · exact Co.mem_climb s 5
            · trivial
          cases g with
          | false =>
            have hte := Co.text_bad Hg.out
            cases b with
            | false =>
              go_wp2_with fail
              refine (spec_FormatCoalition s w8).mono ?_
              rintro e w9 ⟨rfl, hb9⟩
              have Hb9 := Lib.hid (Hb8.out.trans (hb9.mono Hb8.out.size))
              have Hr9 := Lib.hid (Hr8.out.below Ha8.out hb9)
              have Ha9 : Hid (∀ p, a5 = some p → p.block < w9.heap.size) := fun p hp => Nat.lt_of_lt_of_le (Ha8.out p hp) hb9.size
              clear hb9
              go_wp2_with fail
              refine (spec_MembersOf s w9).mono ?_
              rintro e w10 ⟨v, rfl, ho10, hb10⟩
              obtain ⟨a10, c10, rfl, hr10, ha10, _⟩ := own_reads ho10
              have Hr10 := Lib.hid hr10
              have Hr5' := Lib.hid (Hr9.out.below Ha9.out hb10)
              have Hb10 := Lib.hid (Hb9.out.trans (hb10.mono Hb9.out.size))
              clear ho10 hr10 ha10 hb10
              go_wp2_with fail
              refine (laws_sameInts a5 a10 c5 c10 (memR s) (by omega) w10 Hr5'.out Hr10.out).mono ?_
              rintro e w11 ⟨rfl, d11, rfl⟩
              go_wp2_with fail
              refine (laws_climbs a5 c5 (memR s) (by omega) Hmc.out (w10.drewN d11) (Hr5'.out.drewN d11)).mono ?_
              rintro e w12 ⟨rfl, d12, rfl⟩
              have Hb12 : Hid (∀ d, Below w.heap.size w (w10.drewN d)) := fun d => ⟨Hb10.out.os, Hb10.out.tape, Hb10.out.output, Hb10.out.size, Hb10.out.block⟩
              go_wp2_with fail
              go_meet
              exact ⟨rfl, Hb12.out _⟩
            | true =>
              go_wp2_with fail
              refine (spec_FormatCoalition s w8).mono ?_
              rintro e w9 ⟨rfl, hb9⟩
              have Hb9 := Lib.hid (Hb8.out.trans (hb9.mono Hb8.out.size))
              have Hr9 := Lib.hid (Hr8.out.below Ha8.out hb9)
              have Ha9 : Hid (∀ p, a5 = some p → p.block < w9.heap.size) := fun p hp => Nat.lt_of_lt_of_le (Ha8.out p hp) hb9.size
              clear hb9
              go_wp2_with fail
              refine (spec_MembersOf s w9).mono ?_
              rintro e w10 ⟨v, rfl, ho10, hb10⟩
              obtain ⟨a10, c10, rfl, hr10, ha10, _⟩ := own_reads ho10
              have Hr10 := Lib.hid hr10
              have Hr5' := Lib.hid (Hr9.out.below Ha9.out hb10)
              have Hb10 := Lib.hid (Hb9.out.trans (hb10.mono Hb9.out.size))
              clear ho10 hr10 ha10 hb10
              go_wp2_with fail
              refine (laws_sameInts a5 a10 c5 c10 (memR s) (by omega) w10 Hr5'.out Hr10.out).mono ?_
              rintro e w11 ⟨rfl, d11, rfl⟩
              go_wp2_with fail
              refine (laws_climbs a5 c5 (memR s) (by omega) Hmc.out (w10.drewN d11) (Hr5'.out.drewN d11)).mono ?_
              rintro e w12 ⟨rfl, d12, rfl⟩
              have Hb12 : Hid (∀ d, Below w.heap.size w (w10.drewN d)) := fun d => ⟨Hb10.out.os, Hb10.out.tape, Hb10.out.output, Hb10.out.size, Hb10.out.block⟩
              go_wp2_with fail
              obtain ⟨q0, q1, q2⟩ := Hback.out (by simp)
              refine (impl_FormatCoalition n _).mono ?_
              rintro e w13 ⟨rfl, hb13⟩
              have Hb13 := Lib.hid ((Hb12.out _).trans (hb13.mono (Hb12.out 0).size))
              have ht2 := str_eq q2
              clear hb13 q2
              go_wp2_with fail
              go_meet
              exact ⟨rfl, Hb13⟩
          | true =>
            obtain rfl := Hn0.out rfl
            obtain ⟨y0, r0, hte⟩ := text_ne Hg.out
            cases b with
            | false =>
              go_wp2_with fail
              refine (spec_FormatCoalition n0 w8).mono ?_
              rintro e w9 ⟨rfl, hb9⟩
              have Hb9 := Lib.hid (Hb8.out.trans (hb9.mono Hb8.out.size))
              have Hr9 := Lib.hid (Hr8.out.below Ha8.out hb9)
              have Ha9 : Hid (∀ p, a5 = some p → p.block < w9.heap.size) := fun p hp => Nat.lt_of_lt_of_le (Ha8.out p hp) hb9.size
              clear hb9
              go_wp2_with fail
              refine (spec_MembersOf n0 w9).mono ?_
              rintro e w10 ⟨v, rfl, ho10, hb10⟩
              obtain ⟨a10, c10, rfl, hr10, ha10, _⟩ := own_reads ho10
              have Hr10 := Lib.hid hr10
              have Hr5' := Lib.hid (Hr9.out.below Ha9.out hb10)
              have Hb10 := Lib.hid (Hb9.out.trans (hb10.mono Hb9.out.size))
              clear ho10 hr10 ha10 hb10
              go_wp2_with fail
              refine (laws_sameInts a5 a10 c5 c10 (memR n0) (by omega) w10 Hr5'.out Hr10.out).mono ?_
              rintro e w11 ⟨rfl, d11, rfl⟩
              go_wp2_with fail
              refine (laws_climbs a5 c5 (memR n0) (by omega) Hmc.out (w10.drewN d11) (Hr5'.out.drewN d11)).mono ?_
              rintro e w12 ⟨rfl, d12, rfl⟩
              have Hb12 : Hid (∀ d, Below w.heap.size w (w10.drewN d)) := fun d => ⟨Hb10.out.os, Hb10.out.tape, Hb10.out.output, Hb10.out.size, Hb10.out.block⟩
              go_wp2_with fail
              go_meet
              exact ⟨rfl, Hb12.out _⟩
            | true =>
              go_wp2_with fail
              refine (spec_FormatCoalition n0 w8).mono ?_
              rintro e w9 ⟨rfl, hb9⟩
              have Hb9 := Lib.hid (Hb8.out.trans (hb9.mono Hb8.out.size))
              have Hr9 := Lib.hid (Hr8.out.below Ha8.out hb9)
              have Ha9 : Hid (∀ p, a5 = some p → p.block < w9.heap.size) := fun p hp => Nat.lt_of_lt_of_le (Ha8.out p hp) hb9.size
              clear hb9
              go_wp2_with fail
              refine (spec_MembersOf n0 w9).mono ?_
              rintro e w10 ⟨v, rfl, ho10, hb10⟩
              obtain ⟨a10, c10, rfl, hr10, ha10, _⟩ := own_reads ho10
              have Hr10 := Lib.hid hr10
              have Hr5' := Lib.hid (Hr9.out.below Ha9.out hb10)
              have Hb10 := Lib.hid (Hb9.out.trans (hb10.mono Hb9.out.size))
              clear ho10 hr10 ha10 hb10
              go_wp2_with fail
              refine (laws_sameInts a5 a10 c5 c10 (memR n0) (by omega) w10 Hr5'.out Hr10.out).mono ?_
              rintro e w11 ⟨rfl, d11, rfl⟩
              go_wp2_with fail
              refine (laws_climbs a5 c5 (memR n0) (by omega) Hmc.out (w10.drewN d11) (Hr5'.out.drewN d11)).mono ?_
              rintro e w12 ⟨rfl, d12, rfl⟩
              have Hb12 : Hid (∀ d, Below w.heap.size w (w10.drewN d)) := fun d => ⟨Hb10.out.os, Hb10.out.tape, Hb10.out.output, Hb10.out.size, Hb10.out.block⟩
              go_wp2_with fail
              obtain ⟨q0, q1, q2⟩ := Hback.out (by simp)
              refine (impl_FormatCoalition n _).mono ?_
              rintro e w13 ⟨rfl, hb13⟩
              have Hb13 := Lib.hid ((Hb12.out _).trans (hb13.mono (Hb12.out 0).size))
              have ht2 := str_eq q2
              clear hb13 q2
              go_wp2_with fail
              go_meet
              exact ⟨rfl, Hb13⟩
        case rest =>
          obtain ⟨rfl, hb9⟩ := hcut
          clear Hg Hpt Hn0 Hpr Hback Hr8 Ha8
          go_wp2_with fail
          refine (spec_DrawHasPlayer a len cap _ ((Hc.out.below hb9.out).mono hb9.out.size)).mono ?_
          rintro e w10 ⟨p, k, rfl, hp0, hp1, hk0, hk1, hb10⟩
          have Hb10 := Lib.hid (hb9.out.trans (hb10.mono hb9.out.size))
          clear hb10
          go_wp2_with fail
          refine (spec_DrawCountCoalitions a len cap w10 ((Hc.out.below Hb10.out).mono Hb10.out.size)).mono ?_
          rintro e w11 ⟨m, rfl, hm0, hm1, hb11⟩
          have Hb11 := Lib.hid (Hb10.out.trans (hb11.mono Hb10.out.size))
          clear hb11
          obtain ⟨r1, f1, f2⟩ := both_HasPlayer p k (by omega)
          obtain ⟨r2, f3, f4⟩ := both_Count m (by omega) (by omega)
          obtain ⟨r3, f5, f6⟩ := both_SizeOf p (by omega)
          have F1 := Lib.hid f1
          have F2 := Lib.hid f2
          have F3 := Lib.hid f3
          have F4 := Lib.hid f4
          have F5 := Lib.hid f5
          have F6 := Lib.hid f6
          clear f1 f2 f3 f4 f5 f6
          go_wp2_with fail
          refine (F2.out w11).mono ?_
          rintro e w12 ⟨rfl, rfl⟩
          go_wp2_with fail
          refine (F1.out w11).mono ?_
          rintro e w12 ⟨rfl, rfl⟩
          go_wp2_with fail
          refine (F4.out w11).mono ?_
          rintro e w12 ⟨rfl, rfl⟩
          go_wp2_with fail
          refine (F3.out w11).mono ?_
          rintro e w12 ⟨rfl, rfl⟩
          go_wp2_with fail
          refine (F6.out w11).mono ?_
          rintro e w12 ⟨rfl, rfl⟩
          go_wp2_with fail
          refine (F5.out w11).mono ?_
          rintro e w12 ⟨rfl, rfl⟩
          go_wp2_with fail
          go_ret
          exact ⟨rfl, Hb11⟩
theorem walk (a : Option Addr) (len cap : Nat) (zs : List Int) (w : World) (hz : IntsAt .u8 w.heap.size w a len zs) :
    Calls Try.prog 3 #[.slice a len cap] w fun e w' => e = .returned (.bool true) ∧ Below w.heap.size w w' :=
  walk0 a len cap w (code_of hz)
end fnCoalitions
end Go.Proofs.Ytkaelmankhepdaa
