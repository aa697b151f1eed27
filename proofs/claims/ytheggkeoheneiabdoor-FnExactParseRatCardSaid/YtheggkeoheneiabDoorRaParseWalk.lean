/- The walk of FnExactParseRat: for every text the law returns true. -/
import Derived.Test.YtheggkeoheneiabDoorRaParse3
import Derived.Test.YtheggkeoheneiabDoorTabs
namespace Go.Proofs.YtheggkeoheneiabDoor
open Go.RowKit
/-- Both sides answer the same at a text of at most 2^20 bytes. -/
theorem both_ParseRat (s : ByteArray) (hs : s.size ≤ 1048576) : ∃ (N D : Int) (k : Bool),
    (∀ w, Calls Tryd.prog 4 #[.string s] w fun e w' => e = .returned (.tuple #[.agg #[.int .i64 N, .int .i64 D], .bool k]) ∧ Below w.heap.size w w') ∧
    (∀ w, Tabs w → Calls Tryd.prog 5 #[.string s] w fun e w' => e = .returned (.tuple #[.agg #[.int .i64 N, .int .i64 D], .bool k]) ∧ Below w.heap.size w w') := by
  by_cases h : ∃ n d : Int, Ra.vld n d = true ∧ Ra.txt n d = s.data.toList
  · obtain ⟨n, d, hv, ht⟩ := h
    exact ⟨n, d, true, spec_ParseRat_ok s n d hv ht hs, impl_ParseRat_ok s n d hv ht hs⟩
  · have hno : ∀ n d : Int, Ra.vld n d = true → Ra.txt n d ≠ s.data.toList := fun n d a b => h ⟨n, d, a, b⟩
    exact ⟨0, 0, false, spec_ParseRat_bad s hno hs, impl_ParseRat_bad s hno hs⟩
namespace fnExactParseRat
theorem walk (s : ByteArray) (_ws : s.size ≤ maxLen) (w : World) (ht : Tabs w) :
    Calls Tryd.prog 3 #[.string s] w fun e w' => e = .returned (.bool true) ∧ Below w.heap.size w w' := by
  have Ht := Lib.hid ht
  clear ht
  by_cases hbig : 1048576 < s.size
  · have hb : decide ((1048576 : Int) < (s.size : Int)) = true := by rw [decide_eq_true_iff]; omega
    go_enter Tryd.func3, Tryd.ntmps3
    go_wp2_with fail
    go_ret
    exact ⟨rfl, Below.refl _ _⟩
  · have hb : decide ((1048576 : Int) < (s.size : Int)) = false := by rw [decide_eq_false_iff_not]; omega
    obtain ⟨N, D, k, hS, hI⟩ := both_ParseRat s (by omega)
    have HS := Lib.hid hS
    have HI := Lib.hid hI
    clear hS hI
    go_enter Tryd.func3, Tryd.ntmps3
    go_wp2_with fail
    refine (HS.out _).mono ?_
    rintro e w1 ⟨rfl, hb1⟩
    have Hb1 := Lib.hid (hb1.alloc hb1.size (.cells #[.int .i64 N, .int .i64 D] 23))
    have Ht1 := Lib.hid ((Ht.out.below hb1).below ((Below.refl _ _).alloc (Nat.le_refl _) (.cells #[.int .i64 N, .int .i64 D] 23)))
    clear hb1
    go_wp2_with fail
    refine (HI.out _ Ht1.out).mono ?_
    rintro e w2 ⟨rfl, hb2⟩
    obtain ⟨a0, a1, hz⟩ := kept1 hb2
    have Hb2 := Lib.hid (Hb1.out.trans (hb2.mono Hb1.out.size))
    clear Hb1 hb2
    go_wp2_with fail
    refine (laws_eqRat N D _).mono ?_
    rintro e w3 ⟨rfl, hb3⟩
    have Hb3 := Lib.hid ((Hb2.out.alloc Hb2.out.size _).trans (hb3.mono (by have := Hb2.out.size; rw [size1]; omega)))
    clear Hb2 hb3
    go_wp2_with fail
    go_ret
    exact ⟨rfl, Hb3.out⟩
end fnExactParseRat
end Go.Proofs.YtheggkeoheneiabDoor
