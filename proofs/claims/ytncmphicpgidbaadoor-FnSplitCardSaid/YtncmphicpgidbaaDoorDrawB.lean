/- spec.l1Whole, DrawFormatInt, DrawParseNumber: whatever the code, an int or a short text is drawn. -/
import Derived.Test.YtncmphicpgidbaaDoorDrawA
import Derived.Test.YtncmphicpgidbaaDoorSpFmt
import Derived.Lib.ItoaLen
namespace Go.Proofs.YtncmphicpgidbaaDoor
open Go.RowKit

def wholes : List Int := [0, 1, -1, 9, 10, 999999, 1000000, 999999999999, 1000000000000, -999999999999, 9223372036854775807, -9223372036854775808]
theorem wholes_bd : ∀ v ∈ wholes, -9223372036854775808 ≤ v ∧ v ≤ 9223372036854775807 := by decide
theorem wholes_cells : (wholes.map (Value.int .i64)).toArray = #[.int .i64 0, .int .i64 1, .int .i64 (-1), .int .i64 9, .int .i64 10, .int .i64 999999, .int .i64 1000000, .int .i64 999999999999, .int .i64 1000000000000, .int .i64 (-999999999999), .int .i64 9223372036854775807, .int .i64 (-9223372036854775808)] := rfl
/-- An int has been drawn; what was there below B has not turned. -/
def SomeInt (B : Nat) (w : World) (e : Ending) (w' : World) : Prop :=
  ∃ x : Int, e = .returned (.int .i64 x) ∧ -9223372036854775808 ≤ x ∧ x ≤ 9223372036854775807 ∧ Below B w w'

set_option maxRecDepth 100000 in
set_option maxHeartbeats 1000000 in
theorem spec_l1Whole (B p : Nat) (a : Option Addr) (len cap : Nat) (w : World) (hB : B ≤ p) (hBw : B ≤ w.heap.size) (hcur : Cur w p a len cap) (hcode : CodeAt B w a len) :
    Calls Tryd.prog 25 #[.pointer (some ⟨p, 0, none⟩)] w (SomeInt B w) := by
  have Hc := Lib.hid hcode
  have Hu := Lib.hid hcur
  clear hcode hcur
  go_enter Tryd.func25, Tryd.ntmps25
  go_wp2_with fail
  refine (spec_l1Below B p a len cap _ (by decide) (by decide) w hB Hu.out Hc.out).mono ?_
  rintro e w1 ⟨x, rfl, hx0, hx1, hc1, ho1⟩
  have hs1 := ho1.low.size
  have Hp := Lib.hid hc1.lt
  have Hu1 := Lib.hid (hc1.alloc (.cells (wholes.map (Value.int .i64)).toArray 3))
  have Hc1 := Lib.hid hc1
  have Hcd := Lib.hid (Hc.out.below (ho1.below hB))
  have Hb1 := Lib.hid (ho1.below hB)
  have Hl := Lib.hid (ListAt.new w1 (wholes.map (Value.int .i64)) 3)
  rw [wholes_cells] at Hu1 Hl
  clear hc1 ho1
  by_cases h0 : x = 0
  · subst h0
    go_wp2_with fail
    refine (spec_l1PickInt B p w1.heap.size a len cap 12 wholes (by decide) (by decide) _ hB (by have := Hp.out; omega) (by simp) Hl.out Hu1.out (Hcd.out.below ((Below.refl _ _).alloc (by omega) _))).mono ?_
    rintro e w2 ⟨v, rfl, hv, hc2, ho2⟩
    obtain ⟨y, hy, rfl⟩ := List.mem_map.1 hv
    have hbd := wholes_bd y hy
    have Hb2 := Lib.hid ((Hb1.out.alloc (by omega) _).trans (ho2.below hB))
    clear hv hy hc2 ho2
    go_wp2_with fail
    go_ret
    exact ⟨_, rfl, hbd.1, hbd.2, Hb2⟩
  · by_cases h1 : x = 1
    · subst h1
      go_wp2_with fail
      refine (spec_l1Below B p a len cap _ (by decide) (by decide) w1 hB Hc1.out Hcd.out).mono ?_
      rintro e w2 ⟨y, rfl, hy0, hy1, hc2, ho2⟩
      have Hb2 := Lib.hid (Hb1.out.trans (ho2.below hB))
      clear hc2 ho2
      go_wp2_with fail
      go_ret
      exact ⟨_, rfl, by omega, by omega, Hb2⟩
    · have e0 : (x == 0) = false := by simpa using h0
      have e1 : (x == 1) = false := by simpa using h1
      go_wp2_with fail
      refine (spec_l1Below B p a len cap _ (by decide) (by decide) w1 hB Hc1.out Hcd.out).mono ?_
      rintro e w2 ⟨y, rfl, hy0, hy1, hc2, ho2⟩
      have Hb2 := Lib.hid (Hb1.out.trans (ho2.below hB))
      clear hc2 ho2
      go_wp2_with fail
      go_ret
      exact ⟨_, rfl, by omega, by omega, Hb2⟩

theorem spec_DrawFormatInt (a : Option Addr) (len cap : Nat) (w : World) (hcode : CodeAt w.heap.size w a len) :
    Calls Tryd.prog 10 #[.slice a len cap] w (SomeInt w.heap.size w) := by
  have Hc := Lib.hid hcode
  clear hcode
  go_enter Tryd.func10, Tryd.ntmps10
  go_wp2_with fail
  refine (spec_l1New w.heap.size a len cap w Hc.out).mono ?_
  rintro e w1 ⟨rfl, hc1, hb1, hsz⟩
  have Hc1 := Lib.hid hc1
  have Hb1 := Lib.hid hb1
  have Hsz := Lib.hid hsz
  clear hc1 hb1 hsz
  go_wp2_with fail
  refine (spec_l1Whole w.heap.size w.heap.size a len cap w1 (Nat.le_refl _) Hb1.out.size Hc1.out (Hc.out.below Hb1.out)).mono ?_
  rintro e w2 ⟨x, rfl, hx0, hx1, hb2⟩
  have Hb2 := Lib.hid (Hb1.out.trans hb2)
  clear hb2
  go_wp2_with fail
  go_ret
  exact ⟨_, rfl, hx0, hx1, Hb2⟩

def texts : List ByteArray := [⟨#[]⟩, ⟨#[48, 48]⟩, ⟨#[48, 49]⟩, ⟨#[45, 49]⟩, ⟨#[43, 49]⟩, ⟨#[120]⟩, ⟨#[57, 57, 57, 57, 57, 57]⟩, ⟨#[49, 48, 48, 48, 48, 48, 48]⟩, ⟨#[45, 48]⟩, ⟨#[45]⟩, ⟨#[32, 49]⟩, ⟨#[49, 32]⟩]
theorem texts_bd : ∀ v ∈ texts, v.size ≤ 100 := by unfold texts; decide
theorem texts_cells : (texts.map Value.string).toArray = #[.string ⟨#[]⟩, .string ⟨#[48, 48]⟩, .string ⟨#[48, 49]⟩, .string ⟨#[45, 49]⟩, .string ⟨#[43, 49]⟩, .string ⟨#[120]⟩, .string ⟨#[57, 57, 57, 57, 57, 57]⟩, .string ⟨#[49, 48, 48, 48, 48, 48, 48]⟩, .string ⟨#[45, 48]⟩, .string ⟨#[45]⟩, .string ⟨#[32, 49]⟩, .string ⟨#[49, 32]⟩] := rfl
def SomeText (B : Nat) (w : World) (e : Ending) (w' : World) : Prop :=
  ∃ x : ByteArray, e = .returned (.string x) ∧ x.size ≤ 100 ∧ Below B w w'

set_option maxRecDepth 100000 in
set_option maxHeartbeats 1000000 in
theorem spec_DrawParseNumber (a : Option Addr) (len cap : Nat) (w : World) (hcode : CodeAt w.heap.size w a len) :
    Calls Tryd.prog 14 #[.slice a len cap] w (SomeText w.heap.size w) := by
  have Hc := Lib.hid hcode
  clear hcode
  go_enter Tryd.func14, Tryd.ntmps14
  go_wp2_with fail
  refine (spec_l1New w.heap.size a len cap w Hc.out).mono ?_
  rintro e w1 ⟨rfl, hc1, hb1, hsz⟩
  have Hc1 := Lib.hid hc1
  have Hb1 := Lib.hid hb1
  clear hc1 hb1 hsz
  go_wp2_with fail
  refine (spec_l1Once w.heap.size w.heap.size a len cap 2 (by decide) (by decide) w1 (Nat.le_refl _) Hc1.out (Hc.out.below Hb1.out)).mono ?_
  rintro e w2 ⟨bb, rfl, hc2, ho2⟩
  have Hb2 := Lib.hid (Hb1.out.trans (ho2.below (Nat.le_refl _)))
  have hsz2 := Hb2.out.size
  have Hp := Lib.hid hc2.lt
  have Hc2 := Lib.hid hc2
  have Hu2 := Lib.hid (hc2.alloc (.cells (texts.map Value.string).toArray 9))
  have Hl := Lib.hid (ListAt.new w2 (texts.map Value.string) 9)
  rw [texts_cells] at Hu2 Hl
  clear hc2 ho2
  cases bb with
  | true =>
    go_wp2_with fail
    refine (spec_l1Whole w.heap.size w.heap.size a len cap w2 (Nat.le_refl _) hsz2 Hc2.out (Hc.out.below Hb2.out)).mono ?_
    rintro e w3 ⟨x, rfl, hx0, hx1, hb3⟩
    have Hb3 := Lib.hid (Hb2.out.trans hb3)
    clear hb3
    go_wp2_with fail
    refine (spec_FormatInt x hx0 hx1 _).mono ?_
    rintro e w4 ⟨rfl, hb4⟩
    have Hb4 := Lib.hid (Hb3.out.trans (hb4.mono Hb3.out.size))
    have hl : (⟨(Lib.itoa x).toArray⟩ : ByteArray).size ≤ 100 := by
      have := Lib.itoa_length_le x hx0 hx1
      show (Lib.itoa x).toArray.size ≤ 100
      simp; omega
    clear hb4
    go_wp2_with fail
    go_ret
    exact ⟨_, rfl, hl, Hb4⟩
  | false =>
    go_wp2_with fail
    refine (spec_l1Pick w.heap.size w.heap.size w2.heap.size a len cap 12 texts (by decide) (by decide) _ (Nat.le_refl _) (by have := Hp.out; omega) (by simp) Hl.out Hu2.out ((Hc.out.below Hb2.out).below ((Below.refl _ _).alloc hsz2 _))).mono ?_
    rintro e w3 ⟨v, rfl, hv, hc3, ho3⟩
    obtain ⟨y, hy, rfl⟩ := List.mem_map.1 hv
    have hbd := texts_bd y hy
    have Hb3 := Lib.hid ((Hb2.out.alloc hsz2 _).trans (ho3.below (Nat.le_refl _)))
    clear hv hy hc3 ho3
    go_wp2_with fail
    go_ret
    exact ⟨_, rfl, hbd, Hb3⟩
end Go.Proofs.YtncmphicpgidbaaDoor
