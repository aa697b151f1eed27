/- The walk of FnNumbers: whatever the code, the law returns true. -/
import Derived.Test.YtncmphicpgidbaaDoorIntB
import Derived.Test.YtncmphicpgidbaaDoorSpRead
import Derived.Test.YtncmphicpgidbaaDoorDrawB
import Derived.Test.YtncmphicpgidbaaDoorRow
namespace Go.Proofs.YtncmphicpgidbaaDoor.fnNumbers
open Go.RowKit

theorem code_of {B : Nat} {w : World} {a : Option Addr} {len : Nat} {zs : List Int} (h : IntsAt .u8 B w a len zs) : CodeAt B w a len :=
  ⟨h.1, fun i hi => by
    obtain ⟨b, o, h1, h2, h3, h4⟩ := h.2.2 i hi
    have e1 : IntKind.u8.min = 0 := rfl
    have e2 : IntKind.u8.max = 255 := rfl
    simp [Lit.wf, e1, e2] at h4
    exact ⟨b, o, _, h1, h2, h4.1, h4.2, h3⟩⟩
theorem big_no (a : Option Addr) (len cap : Nat) (hl : len ≤ 1048576) (w : World) :
    Calls Tryd.prog 9 #[.slice a len cap] w fun e w' => e = .returned (.bool false) ∧ w = w' := by
  have hb : decide ((1048576 : Int) < (len : Int)) = false := by rw [decide_eq_false_iff_not]; omega
  go_enter Tryd.func9, Tryd.ntmps9
  go_wp2_with fail
  go_ret
  exact ⟨rfl, rfl⟩
theorem big_yes (a : Option Addr) (len cap : Nat) (hl : 1048576 < len) (w : World) :
    Calls Tryd.prog 9 #[.slice a len cap] w fun e w' => e = .returned (.bool true) ∧ w = w' := by
  have hb : decide ((1048576 : Int) < (len : Int)) = true := by rw [decide_eq_true_iff]; omega
  go_enter Tryd.func9, Tryd.ntmps9
  go_wp2_with fail
  go_ret
  exact ⟨rfl, rfl⟩

set_option maxRecDepth 100000 in
set_option maxHeartbeats 2000000 in
theorem walk0 (a : Option Addr) (len cap : Nat) (w : World) (hcode : CodeAt w.heap.size w a len) (ht : Tabs w) :
    Calls Tryd.prog 3 #[.slice a len cap] w fun e w' => e = .returned (.bool true) ∧ Below w.heap.size w w' := by
  have Hc := Lib.hid hcode
  have Ht := Lib.hid ht
  clear hcode ht
  by_cases hbig : 1048576 < len
  · go_enter Tryd.func3, Tryd.ntmps3
    go_wp2_with fail
    refine (big_yes a len cap hbig w).mono ?_
    rintro e w1 ⟨rfl, rfl⟩
    go_wp2_with fail
    go_ret
    exact ⟨rfl, Below.refl _ _⟩
  · go_enter Tryd.func3, Tryd.ntmps3
    go_wp2_with fail
    refine (big_no a len cap (by omega) w).mono ?_
    rintro e w1 ⟨rfl, rfl⟩
    go_wp2_with fail
    refine (spec_DrawFormatInt a len cap w Hc.out).mono ?_
    rintro e w1 ⟨n, rfl, hn0, hn1, hb1⟩
    have Hb1 := Lib.hid hb1
    have Ht1 := Lib.hid (Ht.out.below hb1)
    clear hb1
    go_wp2_with fail
    refine (impl_FormatInt n hn0 hn1 _ Ht1.out).mono ?_
    rintro e w2 ⟨rfl, hb2⟩
    have Hb2 := Lib.hid (Hb1.out.trans (hb2.mono Hb1.out.size))
    have Ht2 := Lib.hid (Ht1.out.below hb2)
    clear hb2
    go_wp2_with fail
    have key : (∃ hp : -999999999999 ≤ n ∧ n ≤ 999999999999, decide (((Lib.itoa n).length : Int) ≤ 12) = true) ∨
        (∃ hp : -999999999999 ≤ n ∧ n ≤ 999999999999, decide (((Lib.itoa n).length : Int) ≤ 12) = false ∧ decide (n < 0) = true ∧ decide (((Lib.itoa n).length : Int) ≤ 13) = true) ∨
        (∃ hp : ¬ (-999999999999 ≤ n ∧ n ≤ 999999999999), decide (((Lib.itoa n).length : Int) ≤ 12) = false ∧ decide (n < 0) = true ∧ decide (((Lib.itoa n).length : Int) ≤ 13) = false) ∨
        (∃ hp : ¬ (-999999999999 ≤ n ∧ n ≤ 999999999999), decide (((Lib.itoa n).length : Int) ≤ 12) = false ∧ decide (n < 0) = false) := by
      by_cases hr : -999999999999 ≤ n ∧ n ≤ 999999999999
      · rcases Nat.lt_or_ge 12 (Lib.itoa n).length with h | h
        · right; left
          have := Dec.len_in n hr.1 hr.2
          exact ⟨hr, by rw [decide_eq_false_iff_not]; omega, by rw [decide_eq_true_iff]; omega, by rw [decide_eq_true_iff]; omega⟩
        · left; exact ⟨hr, by rw [decide_eq_true_iff]; omega⟩
      · have := Dec.len_out n (by omega)
        by_cases hn : n < 0
        · right; right; left
          exact ⟨hr, by rw [decide_eq_false_iff_not]; omega, by rw [decide_eq_true_iff]; omega, by rw [decide_eq_false_iff_not]; omega⟩
        · right; right; right
          exact ⟨hr, by rw [decide_eq_false_iff_not]; omega, by rw [decide_eq_false_iff_not]; omega⟩
    have hpi : ∀ W : World, Tabs W → ∃ x : Int × Bool, ((-999999999999 ≤ n ∧ n ≤ 999999999999) → x = (n, true)) ∧ (¬ (-999999999999 ≤ n ∧ n ≤ 999999999999) → x = (0, false)) ∧
        Calls Tryd.prog 12 #[.string ⟨(Lib.itoa n).toArray⟩] W fun e w' => e = .returned (.tuple #[.int .i64 x.1, .bool x.2]) ∧ Below W.heap.size W w' := by
      intro W hT
      by_cases hr : -999999999999 ≤ n ∧ n ≤ 999999999999
      · exact ⟨(n, true), fun _ => rfl, fun h => absurd hr h, impl_ParseInt_ok ⟨(Lib.itoa n).toArray⟩ n rfl hr.1 hr.2 W hT⟩
      · refine ⟨(0, false), fun h => absurd h hr, fun _ => rfl, impl_ParseInt_bad ⟨(Lib.itoa n).toArray⟩ (fun m h0 h1 he => hr ?_) ?_ W hT⟩
        · obtain rfl := Dec.itoa_inj he
          exact ⟨h0, h1⟩
        · have := Lib.itoa_length_le n hn0 hn1
          show (Lib.itoa n).toArray.size ≤ _
          simp; omega
    obtain ⟨x, hx1, hx2, hcall⟩ := hpi w2 Ht2.out
    refine hcall.mono ?_
    clear hpi hcall
    rintro e w3 ⟨rfl, hb3⟩
    have Hb3 := Lib.hid (Hb2.out.trans (hb3.mono Hb2.out.size))
    have Ht3 := Lib.hid (Ht2.out.below hb3)
    clear hb3
    have key2 : (x = (n, true) ∧ decide (((Lib.itoa n).length : Int) ≤ 12) = true) ∨
        (x = (n, true) ∧ decide (((Lib.itoa n).length : Int) ≤ 12) = false ∧ decide (n < 0) = true ∧ decide (((Lib.itoa n).length : Int) ≤ 13) = true) ∨
        (x = (0, false) ∧ decide (((Lib.itoa n).length : Int) ≤ 12) = false ∧ decide (n < 0) = true ∧ decide (((Lib.itoa n).length : Int) ≤ 13) = false) ∨
        (x = (0, false) ∧ decide (((Lib.itoa n).length : Int) ≤ 12) = false ∧ decide (n < 0) = false) := by
      rcases key with ⟨hp, h⟩ | ⟨hp, h⟩ | ⟨hp, h⟩ | ⟨hp, h⟩
      · exact .inl ⟨hx1 hp, h⟩
      · exact .inr (.inl ⟨hx1 hp, h⟩)
      · exact .inr (.inr (.inl ⟨hx2 hp, h⟩))
      · exact .inr (.inr (.inr ⟨hx2 hp, h⟩))
    clear key hx1 hx2
    rcases key2 with ⟨rfl, k1⟩ | ⟨rfl, k1, k2, k3⟩ | ⟨rfl, k1, k2, k3⟩ | ⟨rfl, k1, k2⟩
    all_goals
      simp only
      go_wp2_with fail
      refine (spec_FormatInt n hn0 hn1 _).mono ?_
      rintro e w4 ⟨rfl, hb4⟩
      have Hb4 := Lib.hid (Hb3.out.trans (hb4.mono Hb3.out.size))
      have Ht4 := Lib.hid (Ht3.out.below hb4)
      clear hb4
      go_wp2_with fail
      refine (spec_DrawParseNumber a len cap w4 ((Hc.out.below Hb4.out).mono Hb4.out.size)).mono ?_
      rintro e w5 ⟨t, rfl, ht100, hb5⟩
      have Hb5 := Lib.hid (Hb4.out.trans (hb5.mono Hb4.out.size))
      have Ht5 := Lib.hid (Ht4.out.below hb5)
      clear hb5
      go_wp2_with fail
      by_cases hex : ∃ m : Int, 0 ≤ m ∧ m ≤ 999999 ∧ Lib.itoa m = t.data.toList
      · obtain ⟨m, m0, m1, hm⟩ := hex
        have Hm := Lib.hid hm
        have Hte := Lib.hid (show (⟨(Lib.itoa m).toArray⟩ : ByteArray) = t by rw [hm])
        clear hm
        refine (impl_ParseNumber_ok t m Hm.out m0 m1 _ Ht5.out).mono ?_
        rintro e w6 ⟨rfl, hb6⟩
        have Hb6 := Lib.hid (Hb5.out.trans (hb6.mono Hb5.out.size))
        have Ht6 := Lib.hid (Ht5.out.below hb6)
        clear hb6
        go_wp2_with fail
        refine (spec_ParseNumber_ok t m Hm.out m0 m1 (by omega) _).mono ?_
        rintro e w7 ⟨rfl, hb7⟩
        have Hb7 := Lib.hid (Hb6.out.trans (hb7.mono Hb6.out.size))
        have Ht7 := Lib.hid (Ht6.out.below hb7)
        clear hb7
        go_wp2_with fail
        refine (impl_FormatInt m (by omega) (by omega) _ Ht7.out).mono ?_
        rintro e w8 ⟨rfl, hb8⟩
        have Hb8 := Lib.hid (Hb7.out.trans (hb8.mono Hb7.out.size))
        rw [Hte.out]
        clear hb8
        go_wp2_with fail
        go_ret
        exact ⟨rfl, Hb8⟩
      · have hno : ∀ m : Int, 0 ≤ m → m ≤ 999999 → Lib.itoa m ≠ t.data.toList := fun m a b c => hex ⟨m, a, b, c⟩
        have Hno := Lib.hid hno
        clear hno hex
        refine (impl_ParseNumber_bad t Hno.out (by omega) _ Ht5.out).mono ?_
        rintro e w6 ⟨rfl, hb6⟩
        have Hb6 := Lib.hid (Hb5.out.trans (hb6.mono Hb5.out.size))
        clear hb6
        go_wp2_with fail
        refine (spec_ParseNumber_bad t Hno.out (by omega) _).mono ?_
        rintro e w7 ⟨rfl, hb7⟩
        have Hb7 := Lib.hid (Hb6.out.trans (hb7.mono Hb6.out.size))
        clear hb7
        go_wp2_with fail
        go_ret
        exact ⟨rfl, Hb7⟩

theorem walk (a : Option Addr) (len cap : Nat) (zs : List Int) (w : World) (hz : IntsAt .u8 w.heap.size w a len zs) (ht : Tabs w) :
    Calls Tryd.prog 3 #[.slice a len cap] w fun e w' => e = .returned (.bool true) ∧ Below w.heap.size w w' :=
  walk0 a len cap w (code_of hz) ht
end Go.Proofs.YtncmphicpgidbaaDoor.fnNumbers
