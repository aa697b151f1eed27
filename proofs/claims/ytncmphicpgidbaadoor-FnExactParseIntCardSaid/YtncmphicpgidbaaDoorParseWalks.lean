/- The walks of FnExactParseNumber and FnExactParseInt: for every string the law returns true. -/
import Derived.Test.YtncmphicpgidbaaDoorIntB
import Derived.Test.YtncmphicpgidbaaDoorSpRead
namespace Go.Proofs.YtncmphicpgidbaaDoor.fnExactParseNumber
open Go.RowKit
theorem walk (s : ByteArray) (_ws : s.size ≤ maxLen) (w : World) (ht : Tabs w) :
    Calls Tryd.prog 6 #[.string s] w fun e w' => e = .returned (.bool true) ∧ Below w.heap.size w w' := by
  have Ht := Lib.hid ht
  clear ht
  by_cases hbig : 1048576 < s.size
  · have hb : decide ((1048576 : Int) < (s.size : Int)) = true := by rw [decide_eq_true_iff]; omega
    go_enter Tryd.func6, Tryd.ntmps6
    go_wp2_with fail
    go_ret
    exact ⟨rfl, Below.refl _ _⟩
  · have hsz : s.size ≤ 1048576 := by omega
    have hb : decide ((1048576 : Int) < (s.size : Int)) = false := by rw [decide_eq_false_iff_not]; omega
    by_cases hex : ∃ n : Int, 0 ≤ n ∧ n ≤ 999999 ∧ Lib.itoa n = s.data.toList
    · obtain ⟨n, h0, h1, hn⟩ := hex
      have Hn := Lib.hid hn
      clear hn
      go_enter Tryd.func6, Tryd.ntmps6
      go_wp2_with fail
      refine (spec_ParseNumber_ok s n Hn.out h0 h1 (by omega) _).mono ?_
      rintro e w1 ⟨rfl, hb1⟩
      have Ht1 := Lib.hid (Ht.out.below hb1)
      go_wp2_with fail
      refine (impl_ParseNumber_ok s n Hn.out h0 h1 _ Ht1.out).mono ?_
      rintro e w2 ⟨rfl, hb2⟩
      go_wp2_with fail
      go_ret
      exact ⟨rfl, hb1.trans (hb2.mono hb1.size)⟩
    · have hno : ∀ n : Int, 0 ≤ n → n ≤ 999999 → Lib.itoa n ≠ s.data.toList := fun n a b c => hex ⟨n, a, b, c⟩
      have Hno := Lib.hid hno
      clear hno hex
      go_enter Tryd.func6, Tryd.ntmps6
      go_wp2_with fail
      refine (spec_ParseNumber_bad s Hno.out (by omega) _).mono ?_
      rintro e w1 ⟨rfl, hb1⟩
      have Ht1 := Lib.hid (Ht.out.below hb1)
      go_wp2_with fail
      refine (impl_ParseNumber_bad s Hno.out (by omega) _ Ht1.out).mono ?_
      rintro e w2 ⟨rfl, hb2⟩
      go_wp2_with fail
      go_ret
      exact ⟨rfl, hb1.trans (hb2.mono hb1.size)⟩
end Go.Proofs.YtncmphicpgidbaaDoor.fnExactParseNumber
namespace Go.Proofs.YtncmphicpgidbaaDoor.fnExactParseInt
open Go.RowKit
theorem walk (s : ByteArray) (_ws : s.size ≤ maxLen) (w : World) (ht : Tabs w) :
    Calls Tryd.prog 7 #[.string s] w fun e w' => e = .returned (.bool true) ∧ Below w.heap.size w w' := by
  have Ht := Lib.hid ht
  clear ht
  by_cases hbig : 1048576 < s.size
  · have hb : decide ((1048576 : Int) < (s.size : Int)) = true := by rw [decide_eq_true_iff]; omega
    go_enter Tryd.func7, Tryd.ntmps7
    go_wp2_with fail
    go_ret
    exact ⟨rfl, Below.refl _ _⟩
  · have hsz : s.size ≤ 1048576 := by omega
    have hb : decide ((1048576 : Int) < (s.size : Int)) = false := by rw [decide_eq_false_iff_not]; omega
    by_cases hex : ∃ n : Int, -999999999999 ≤ n ∧ n ≤ 999999999999 ∧ Lib.itoa n = s.data.toList
    · obtain ⟨n, h0, h1, hn⟩ := hex
      have Hn := Lib.hid hn
      clear hn
      go_enter Tryd.func7, Tryd.ntmps7
      go_wp2_with fail
      refine (spec_ParseInt_ok s n Hn.out h0 h1 (by omega) _).mono ?_
      rintro e w1 ⟨rfl, hb1⟩
      have Ht1 := Lib.hid (Ht.out.below hb1)
      go_wp2_with fail
      refine (impl_ParseInt_ok s n Hn.out h0 h1 _ Ht1.out).mono ?_
      rintro e w2 ⟨rfl, hb2⟩
      go_wp2_with fail
      go_ret
      exact ⟨rfl, hb1.trans (hb2.mono hb1.size)⟩
    · have hno : ∀ n : Int, -999999999999 ≤ n → n ≤ 999999999999 → Lib.itoa n ≠ s.data.toList := fun n a b c => hex ⟨n, a, b, c⟩
      have Hno := Lib.hid hno
      clear hno hex
      go_enter Tryd.func7, Tryd.ntmps7
      go_wp2_with fail
      refine (spec_ParseInt_bad s Hno.out (by omega) _).mono ?_
      rintro e w1 ⟨rfl, hb1⟩
      have Ht1 := Lib.hid (Ht.out.below hb1)
      go_wp2_with fail
      refine (impl_ParseInt_bad s Hno.out (by omega) _ Ht1.out).mono ?_
      rintro e w2 ⟨rfl, hb2⟩
      go_wp2_with fail
      go_ret
      exact ⟨rfl, hb1.trans (hb2.mono hb1.size)⟩
end Go.Proofs.YtncmphicpgidbaaDoor.fnExactParseInt
