/- spec.l2Any and the draws of chapter 2: whatever the code, a small int or a short text is drawn. -/
import Derived.Test.YtkaelmankhepdaaDrawA
namespace Go.Proofs.Ytkaelmankhepdaa
open Go.RowKit

def anys : List Int := [0, 1, 2, 3, 5, 7, 12, 21, 31, 32, -1]
theorem anys_bd : ∀ v ∈ anys, -1 ≤ v ∧ v ≤ 32 := by decide
theorem anys_cells : (anys.map (Value.int .i64)).toArray = #[.int .i64 0, .int .i64 1, .int .i64 2, .int .i64 3, .int .i64 5, .int .i64 7, .int .i64 12, .int .i64 21, .int .i64 31, .int .i64 32, .int .i64 (-1)] := rfl
/-- A number from lo to hi has been drawn; the cursor goes on; what was there below B has not turned. -/
def DrewIn (lo hi : Int) (B p : Nat) (a : Option Addr) (len cap : Nat) (w : World) (e : Ending) (w' : World) : Prop :=
  ∃ x : Int, e = .returned (.int .i64 x) ∧ lo ≤ x ∧ x ≤ hi ∧ Cur w' p a len cap ∧ Below B w w'
set_option maxRecDepth 100000 in
set_option maxHeartbeats 1000000 in
theorem spec_l2Any (B p : Nat) (a : Option Addr) (len cap : Nat) (w : World) (hB : B ≤ p) (hBw : B ≤ w.heap.size) (hcur : Cur w p a len cap) (hcode : CodeAt B w a len) :
    Calls Try.prog 43 #[.pointer (some ⟨p, 0, none⟩)] w (DrewIn (-1) 32 B p a len cap w) := by
  have Hp := Lib.hid hcur.lt
  have Hc := Lib.hid (hcode.below ((Below.refl _ _).alloc hBw (.cells (anys.map (Value.int .i64)).toArray 3)))
  have Hu := Lib.hid (hcur.alloc (.cells (anys.map (Value.int .i64)).toArray 3))
  have Hl := Lib.hid (ListAt.new w (anys.map (Value.int .i64)) 3)
  rw [anys_cells] at Hu Hl Hc
  clear hcur hcode
  go_enter Try.func43, Try.ntmps43
  go_wp2_with fail
  refine (spec_l1PickInt B p w.heap.size a len cap 11 anys (by decide) (by decide) _ hB (by have := Hp.out; omega) (by simp) Hl.out Hu.out Hc.out).mono ?_
  rintro e w2 ⟨v, rfl, hv, hc2, ho2⟩
  obtain ⟨y, hy, rfl⟩ := List.mem_map.1 hv
  have hbd := anys_bd y hy
  have Hc2 := Lib.hid hc2
  have Hb2 := Lib.hid (((Below.refl _ _).alloc hBw _).trans (ho2.below hB))
  clear hv hy hc2 ho2
  go_wp2_with fail
  go_ret
  exact ⟨_, rfl, hbd.1, hbd.2, Hc2, Hb2⟩
def TwoInts (lo hi lo2 hi2 : Int) (w : World) (e : Ending) (w' : World) : Prop :=
  ∃ x y : Int, e = .returned (.tuple #[.int .i64 x, .int .i64 y]) ∧ lo ≤ x ∧ x ≤ hi ∧ lo2 ≤ y ∧ y ≤ hi2 ∧ Below w.heap.size w w'
def OneInt (lo hi : Int) (w : World) (e : Ending) (w' : World) : Prop :=
  ∃ x : Int, e = .returned (.int .i64 x) ∧ lo ≤ x ∧ x ≤ hi ∧ Below w.heap.size w w'
set_option maxRecDepth 100000 in
set_option maxHeartbeats 1000000 in
theorem spec_DrawIsSubset (a : Option Addr) (len cap : Nat) (w : World) (hcode : CodeAt w.heap.size w a len) :
    Calls Try.prog 14 #[.slice a len cap] w (TwoInts (-1) 32 (-1) 32 w) := by
  have Hc := Lib.hid hcode
  clear hcode
  go_enter Try.func14, Try.ntmps14
  go_wp2_with fail
  refine (spec_l1New w.heap.size a len cap w Hc.out).mono ?_
  rintro e w1 ⟨rfl, hc1, hb1, hsz⟩
  have Hc1 := Lib.hid hc1
  have Hb1 := Lib.hid hb1
  clear hc1 hb1 hsz
  go_wp2_with fail
  refine (spec_l2Any w.heap.size w.heap.size a len cap w1 (Nat.le_refl _) Hb1.out.size Hc1.out (Hc.out.below Hb1.out)).mono ?_
  rintro e w2 ⟨x, rfl, hx0, hx1, hc2, hb2⟩
  have Hc2 := Lib.hid hc2
  have Hb2 := Lib.hid (Hb1.out.trans hb2)
  clear hc2 hb2
  go_wp2_with fail
  refine (spec_l2Any w.heap.size w.heap.size a len cap w2 (Nat.le_refl _) Hb2.out.size Hc2.out (Hc.out.below Hb2.out)).mono ?_
  rintro e w3 ⟨y, rfl, hy0, hy1, hc3, hb3⟩
  have Hb3 := Lib.hid (Hb2.out.trans hb3)
  clear hc3 hb3
  go_wp2_with fail
  go_ret2
  exact ⟨_, _, rfl, hx0, hx1, hy0, hy1, Hb3⟩
set_option maxRecDepth 100000 in
set_option maxHeartbeats 1000000 in
theorem spec_DrawHasPlayer (a : Option Addr) (len cap : Nat) (w : World) (hcode : CodeAt w.heap.size w a len) :
    Calls Try.prog 32 #[.slice a len cap] w (TwoInts (-1) 32 (-1) 6 w) := by
  have Hc := Lib.hid hcode
  clear hcode
  go_enter Try.func32, Try.ntmps32
  go_wp2_with fail
  refine (spec_l1New w.heap.size a len cap w Hc.out).mono ?_
  rintro e w1 ⟨rfl, hc1, hb1, hsz⟩
  have Hc1 := Lib.hid hc1
  have Hb1 := Lib.hid hb1
  clear hc1 hb1 hsz
  go_wp2_with fail
  refine (spec_l2Any w.heap.size w.heap.size a len cap w1 (Nat.le_refl _) Hb1.out.size Hc1.out (Hc.out.below Hb1.out)).mono ?_
  rintro e w2 ⟨x, rfl, hx0, hx1, hc2, hb2⟩
  have Hc2 := Lib.hid hc2
  have Hb2 := Lib.hid (Hb1.out.trans hb2)
  clear hc2 hb2
  go_wp2_with fail
  refine (spec_l1Below w.heap.size w.heap.size a len cap 8 (by decide) (by decide) w2 (Nat.le_refl _) Hc2.out (Hc.out.below Hb2.out)).mono ?_
  rintro e w3 ⟨y, rfl, hy0, hy1, hc3, ho3⟩
  have Hb3 := Lib.hid (Hb2.out.trans (ho3.below (Nat.le_refl _)))
  clear hc3 ho3
  go_wp2_with fail
  go_ret2
  exact ⟨_, _, rfl, hx0, hx1, by omega, by omega, Hb3⟩
set_option maxRecDepth 100000 in
set_option maxHeartbeats 1000000 in
theorem spec_DrawCountCoalitions (a : Option Addr) (len cap : Nat) (w : World) (hcode : CodeAt w.heap.size w a len) :
    Calls Try.prog 33 #[.slice a len cap] w (OneInt (-1) 6 w) := by
  have Hc := Lib.hid hcode
  clear hcode
  go_enter Try.func33, Try.ntmps33
  go_wp2_with fail
  refine (spec_l1New w.heap.size a len cap w Hc.out).mono ?_
  rintro e w1 ⟨rfl, hc1, hb1, hsz⟩
  have Hc1 := Lib.hid hc1
  have Hb1 := Lib.hid hb1
  clear hc1 hb1 hsz
  go_wp2_with fail
  refine (spec_l1Below w.heap.size w.heap.size a len cap 8 (by decide) (by decide) w1 (Nat.le_refl _) Hc1.out (Hc.out.below Hb1.out)).mono ?_
  rintro e w3 ⟨y, rfl, hy0, hy1, hc3, ho3⟩
  have Hb3 := Lib.hid (Hb1.out.trans (ho3.below (Nat.le_refl _)))
  clear hc3 ho3
  go_wp2_with fail
  go_ret
  exact ⟨_, rfl, by omega, by omega, Hb3⟩
set_option maxRecDepth 100000 in
set_option maxHeartbeats 1000000 in
theorem spec_DrawFormatCoalition (a : Option Addr) (len cap : Nat) (w : World) (hcode : CodeAt w.heap.size w a len) :
    Calls Try.prog 22 #[.slice a len cap] w (OneInt (-1) 32 w) := by
  have Hc := Lib.hid hcode
  clear hcode
  go_enter Try.func22, Try.ntmps22
  go_wp2_with fail
  refine (spec_l1New w.heap.size a len cap w Hc.out).mono ?_
  rintro e w1 ⟨rfl, hc1, hb1, hsz⟩
  have Hc1 := Lib.hid hc1
  have Hb1 := Lib.hid hb1
  clear hc1 hb1 hsz
  go_wp2_with fail
  refine (spec_l2Any w.heap.size w.heap.size a len cap w1 (Nat.le_refl _) Hb1.out.size Hc1.out (Hc.out.below Hb1.out)).mono ?_
  rintro e w2 ⟨x, rfl, hx0, hx1, hc2, hb2⟩
  have Hb2 := Lib.hid (Hb1.out.trans hb2)
  clear hc2 hb2
  go_wp2_with fail
  go_ret
  exact ⟨_, rfl, hx0, hx1, Hb2⟩
def OneText (w : World) (e : Ending) (w' : World) : Prop := ∃ x : ByteArray, e = .returned (.string x) ∧ x.size ≤ 100 ∧ Below w.heap.size w w'
def coTexts : List ByteArray := [⟨#[45]⟩, ⟨#[97]⟩, ⟨#[97, 98, 99]⟩, ⟨#[98, 97]⟩, ⟨#[101]⟩, ⟨#[]⟩, ⟨#[97, 98, 99, 100, 101]⟩, ⟨#[102]⟩, ⟨#[97, 97]⟩, ⟨#[45, 97]⟩, ⟨#[98, 100]⟩]
theorem coTexts_bd : ∀ v ∈ coTexts, v.size ≤ 100 := by unfold coTexts; decide
theorem coTexts_cells : (coTexts.map Value.string).toArray = #[.string ⟨#[45]⟩, .string ⟨#[97]⟩, .string ⟨#[97, 98, 99]⟩, .string ⟨#[98, 97]⟩, .string ⟨#[101]⟩, .string ⟨#[]⟩, .string ⟨#[97, 98, 99, 100, 101]⟩, .string ⟨#[102]⟩, .string ⟨#[97, 97]⟩, .string ⟨#[45, 97]⟩, .string ⟨#[98, 100]⟩] := rfl
set_option maxRecDepth 100000 in
set_option maxHeartbeats 1000000 in
theorem spec_DrawParseCoalition (a : Option Addr) (len cap : Nat) (w : World) (hcode : CodeAt w.heap.size w a len) :
    Calls Try.prog 26 #[.slice a len cap] w (OneText w) := by
  have Hc := Lib.hid hcode
  clear hcode
  go_enter Try.func26, Try.ntmps26
  go_wp2_with fail
  refine (spec_l1New w.heap.size a len cap w Hc.out).mono ?_
  rintro e w1 ⟨rfl, hc1, hb1, hsz⟩
  have hB1 := hb1.size
  have Hp := Lib.hid hc1.lt
  have Hu := Lib.hid (hc1.alloc (.cells (coTexts.map Value.string).toArray 9))
  have Hl := Lib.hid (ListAt.new w1 (coTexts.map Value.string) 9)
  have Hb1 := Lib.hid (hb1.alloc hB1 (.cells (coTexts.map Value.string).toArray 9))
  rw [coTexts_cells] at Hu Hl Hb1
  clear hc1 hb1 hsz
  go_wp2_with fail
  refine (spec_l1Pick w.heap.size w.heap.size w1.heap.size a len cap 11 coTexts (by decide) (by decide) _ (Nat.le_refl _) (by have := Hp.out; omega) (by simp) Hl.out Hu.out (Hc.out.below Hb1.out)).mono ?_
  rintro e w3 ⟨v, rfl, hv, hc3, ho3⟩
  obtain ⟨y, hy, rfl⟩ := List.mem_map.1 hv
  have hbd := coTexts_bd y hy
  have Hb3 := Lib.hid (Hb1.out.trans (ho3.below (Nat.le_refl _)))
  clear hv hy hc3 ho3
  go_wp2_with fail
  go_ret
  exact ⟨_, rfl, hbd, Hb3⟩
end Go.Proofs.Ytkaelmankhepdaa
