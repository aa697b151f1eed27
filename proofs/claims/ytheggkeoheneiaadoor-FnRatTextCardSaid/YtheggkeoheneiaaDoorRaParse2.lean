/- ParseRat where no fraction has the text (impl); the specification's ParseRat. -/
import Derived.Test.YtheggkeoheneiaaDoorRaParse
namespace Go.Proofs.YtheggkeoheneiaaDoor
open Go.RowKit

set_option maxHeartbeats 2000000 in
theorem impl_ParseRat_bad (s : ByteArray) (hno : ∀ n d : Int, Ra.vld n d = true → Ra.txt n d ≠ s.data.toList) (hs : s.size ≤ 1048576) (w : World) (ht : Tabs w) :
    Calls Tryd.prog 8 #[.string s] w fun e w' => e = .returned (.tuple #[.agg #[.int .i64 0, .int .i64 0], .bool false]) ∧ Below w.heap.size w w' := by
  have Ht0 := Lib.hid (ht.below ((Below.refl _ _).alloc (Nat.le_refl _) (.cells #[.int .i64 0, .int .i64 0] 25)))
  have Hr0 := Lib.hid (at_new w (.cells #[.int .i64 0, .int .i64 0] 25))
  have Hb0 := Lib.hid ((Below.refl w.heap.size w).alloc (Nat.le_refl _) (.cells #[.int .i64 0, .int .i64 0] 25))
  obtain ⟨pre, post, f, hc, hs1, hs2, hnil⟩ := cut_any s hs
  obtain ⟨m, k1, hm, q1⟩ := impl_ParseInt_any pre (by omega)
  have hk : Hid (∃ post' : ByteArray, ((f = false ∧ post' = ⟨#[49]⟩) ∨ (f = true ∧ post' = post)) ∧ post'.size ≤ 1048576) := by
    cases f with
    | false => exact ⟨_, .inl ⟨rfl, rfl⟩, by decide⟩
    | true => exact ⟨_, .inr ⟨rfl, rfl⟩, hs2⟩
  obtain ⟨post', hf, hs3⟩ := hk.out
  obtain ⟨m2, k2, hm2, q2⟩ := impl_ParseInt_any post' (by omega)
  have hne : k1 = true → (Ra.fmt m m2 == s.toList) = false := fun hk1 => str_ne' s (fmt_other hno (fun h0 => by
    have := hnil h0
    rw [← hm hk1] at this
    exact Ra.itoa_ne_nil m this) m m2)
  have HC := Lib.hid hc
  have Q1 := Lib.hid q1
  have Q2 := Lib.hid q2
  have Hne := Lib.hid hne
  clear ht hno hc hs1 hs2 hs3 hnil hm hm2 q1 q2 hne hk
  rcases hf with ⟨rfl, rfl⟩ | ⟨rfl, rfl⟩
  all_goals
    go_enter Tryd.func8, Tryd.ntmps8
    go_wp2_with fail
    refine (HC.out _).mono ?_
    rintro e w1 ⟨rfl, k, rfl⟩
    have Ht1 := Lib.hid (Ht0.out.below (below_drewN (Below.refl _ _) k))
    have Hb1 := Lib.hid (below_drewN Hb0.out k)
    have Hr1 := Lib.hid (show ((w.alloc (.cells #[.int .i64 0, .int .i64 0] 25)).drewN k).heap[w.heap.size]? = _ from Hr0.out)
    go_wp2_with fail
    refine (Q1.out _ Ht1.out).mono ?_
    rintro e w2 ⟨rfl, hb2⟩
    have Ht2 := Lib.hid (Ht1.out.below hb2)
    have Hb2 := Lib.hid (Hb1.out.trans (hb2.mono Hb1.out.size))
    have Hr2 := Lib.hid (at_below Hr1.out hb2)
    clear hb2
    go_wp2_with fail
    refine (Q2.out _ Ht2.out).mono ?_
    rintro e w3 ⟨rfl, hb3⟩
    have Ht3 := Lib.hid ((Ht2.out.below hb3).below ((Below.refl _ _).alloc (Nat.le_refl _) (.cells #[.int .i64 m, .int .i64 m2] 25)))
    have Hb3 := Lib.hid ((Hb2.out.trans (hb3.mono Hb2.out.size)).alloc (Hb2.out.trans (hb3.mono Hb2.out.size)).size (.cells #[.int .i64 m, .int .i64 m2] 25))
    have Hr3 := Lib.hid (at_alloc (at_below Hr2.out hb3) (.cells #[.int .i64 m, .int .i64 m2] 25))
    clear hb3
    obtain ⟨r0, r1, z0, z1⟩ := cells2_of Hr3.out
    cases k1 with
    | false =>
      go_wp2_with fail
      exact bodyPost_ret (v := .tuple #[.agg #[.int .i64 0, .int .i64 0], .bool false]) (by simp [results, Tryd.results8, go_sem, (pair_set r0 r1).1, (pair_set r0 r1).2]) rfl ⟨rfl, (Hb3.out.setCell (p := ⟨w.heap.size, 0, none⟩) (Nat.le_refl _) _).setCell (p := ⟨w.heap.size, 1, none⟩) (Nat.le_refl _) _⟩
    | true =>
      cases k2 with
      | false =>
        go_wp2_with fail
        exact bodyPost_ret (v := .tuple #[.agg #[.int .i64 0, .int .i64 0], .bool false]) (by simp [results, Tryd.results8, go_sem, (pair_set r0 r1).1, (pair_set r0 r1).2]) rfl ⟨rfl, (Hb3.out.setCell (p := ⟨w.heap.size, 0, none⟩) (Nat.le_refl _) _).setCell (p := ⟨w.heap.size, 1, none⟩) (Nat.le_refl _) _⟩
      | true =>
        have hcmp := Hne.out rfl
        clear r0 r1 z0 z1
        go_wp2_with fail
        refine (impl_FormatRat m m2 _ Ht3.out.pow).mono ?_
        rintro e w4 ⟨rfl, hb4⟩
        obtain ⟨r0, r1, z0, z1⟩ := cells2_of (at_below Hr3.out hb4)
        have Hb4 := Lib.hid (Hb3.out.trans (hb4.mono Hb3.out.size))
        clear hb4
        go_wp2_with fail
        exact bodyPost_ret (v := .tuple #[.agg #[.int .i64 0, .int .i64 0], .bool false]) (by simp [results, Tryd.results8, go_sem, (pair_set r0 r1).1, (pair_set r0 r1).2]) rfl ⟨rfl, (Hb4.out.setCell (p := ⟨w.heap.size, 0, none⟩) (Nat.le_refl _) _).setCell (p := ⟨w.heap.size, 1, none⟩) (Nat.le_refl _) _⟩

theorem spec_Split47 (s : ByteArray) (hs : s.size ≤ 1048576) (w : World) : Calls Tryd.prog 28 #[.string s, .int .u8 47] w (SplitPost 47 s w) := spec_SplitByte s 47 hs w
theorem not_empty {s : ByteArray} (h : s.data.toList ≠ []) : s.toList.isEmpty = false ∧ (s.toList == []) = false := by
  rw [ByteArray.toList_eq]
  cases hl : s.data.toList with
  | nil => exact absurd hl h
  | cons c r => exact ⟨rfl, rfl⟩
set_option maxHeartbeats 2000000 in
theorem spec_ParseRat_ok (s : ByteArray) (n d : Int) (hv : Ra.vld n d = true) (h : Ra.txt n d = s.data.toList) (hs : s.size ≤ 1048576) (w : World) :
    Calls Tryd.prog 12 #[.string s] w fun e w' => e = .returned (.tuple #[.agg #[.int .i64 n, .int .i64 d], .bool true]) ∧ Below w.heap.size w w' := by
  have v := Ra.vld_yes hv
  have hcmp := str_eq' (Ra.fmt_yes hv) s h
  obtain ⟨hem, hem2⟩ := not_empty (s := s) (by rw [← h]; exact Ra.txt_ne_nil n d)
  have Hr0 := Lib.hid (at_new w (.cells #[.int .i64 0, .int .i64 0] 25))
  have Hb0 := Lib.hid ((Below.refl w.heap.size w).alloc (Nat.le_refl _) (.cells #[.int .i64 0, .int .i64 0] 25))
  have hlen : ∀ n : Int, -999999999999 ≤ n → n ≤ 999999999999 → (ByteArray.mk (Lib.itoa n).toArray).size ≤ 281474976710656 := fun n a b => by
    have := Dec.itoa_len13 n a b
    simp [ByteArray.size]; omega
  have Q1 := Lib.hid (spec_ParseInt_ok ⟨(Lib.itoa n).toArray⟩ n (by simp) (by omega) (by omega) (hlen n (by omega) (by omega)))
  have Q2 := Lib.hid (spec_ParseInt_ok ⟨(Lib.itoa d).toArray⟩ d (by simp) (by omega) (by omega) (hlen d (by omega) (by omega)))
  have Hs := Lib.hid (spec_Split47 s hs)
  clear hlen v hv
  by_cases hd : d = 1
  · subst hd
    have Hp := Lib.hid (Ra.parts_int h)
    clear h
    go_enter Tryd.func12, Tryd.ntmps12
    go_wp2_with fail
    refine (Hs.out _).mono ?_
    rintro e w1 ⟨pv, rfl, ho1, hb1⟩
    rw [Hp.out] at ho1
    obtain ⟨g, cap, rfl, hg, hcells⟩ := row_cells ho1 (by simp)
    have c0 := hcells 0 _ rfl
    have Hb1 := Lib.hid (Hb0.out.trans (hb1.mono Hb0.out.size))
    have Hr1 := Lib.hid (at_below Hr0.out hb1)
    clear hcells ho1 hb1
    go_wp2_with fail
    refine (Q1.out _).mono ?_
    rintro e w2 ⟨rfl, hb2⟩
    have Hb2 := Lib.hid ((Hb1.out.trans (hb2.mono Hb1.out.size)).alloc (Hb1.out.trans (hb2.mono Hb1.out.size)).size (.cells #[.int .i64 n, .int .i64 1] 25))
    have Hr2 := Lib.hid (at_alloc (at_below Hr1.out hb2) (.cells #[.int .i64 n, .int .i64 1] 25))
    have Hm2 := Lib.hid (at_new w2 (.cells #[.int .i64 n, .int .i64 1] 25))
    clear hb2 c0
    go_wp2_with fail
    refine (spec_FormatRat n 1 _).mono ?_
    rintro e w4 ⟨rfl, hb4⟩
    obtain ⟨r0, r1, z0, z1⟩ := cells2_of (at_below Hr2.out hb4)
    obtain ⟨m0, m1, _, _⟩ := cells2_of (at_below Hm2.out hb4)
    have Hb4 := Lib.hid (Hb2.out.trans (hb4.mono Hb2.out.size))
    clear hb4
    go_wp2_with fail
    exact bodyPost_ret (v := .tuple #[.agg #[.int .i64 n, .int .i64 1], .bool true]) (by simp [results, Tryd.results12, go_sem, (pair_set r0 r1).1, (pair_set r0 r1).2]) rfl ⟨rfl, (Hb4.out.setCell (p := ⟨w.heap.size, 0, none⟩) (Nat.le_refl _) _).setCell (p := ⟨w.heap.size, 1, none⟩) (Nat.le_refl _) _⟩
  · have Hp := Lib.hid (Ra.parts_frac hd h)
    clear h hd
    go_enter Tryd.func12, Tryd.ntmps12
    go_wp2_with fail
    refine (Hs.out _).mono ?_
    rintro e w1 ⟨pv, rfl, ho1, hb1⟩
    rw [Hp.out] at ho1
    obtain ⟨g, cap, rfl, hg, hcells⟩ := row_cells ho1 (by simp)
    have c0 := hcells 0 _ rfl
    have c1 := hcells 1 _ rfl
    have Hb1 := Lib.hid (Hb0.out.trans (hb1.mono Hb0.out.size))
    have Hr1 := Lib.hid (at_below Hr0.out hb1)
    clear hcells ho1 hb1
    go_wp2_with fail
    refine (Q1.out _).mono ?_
    rintro e w2 ⟨rfl, hb2⟩
    have Hb2 := Lib.hid (Hb1.out.trans (hb2.mono Hb1.out.size))
    have Hr2 := Lib.hid (at_below Hr1.out hb2)
    have c1' := cell_after hb2 (p := ⟨g, 1, none⟩) hg c1
    clear hb2 c0 c1
    go_wp2_with fail
    refine (Q2.out _).mono ?_
    rintro e w3 ⟨rfl, hb3⟩
    have Hb3 := Lib.hid ((Hb2.out.trans (hb3.mono Hb2.out.size)).alloc (Hb2.out.trans (hb3.mono Hb2.out.size)).size (.cells #[.int .i64 n, .int .i64 d] 25))
    have Hr3 := Lib.hid (at_alloc (at_below Hr2.out hb3) (.cells #[.int .i64 n, .int .i64 d] 25))
    have Hm3 := Lib.hid (at_new w3 (.cells #[.int .i64 n, .int .i64 d] 25))
    clear hb3 c1'
    go_wp2_with fail
    refine (spec_FormatRat n d _).mono ?_
    rintro e w4 ⟨rfl, hb4⟩
    obtain ⟨r0, r1, z0, z1⟩ := cells2_of (at_below Hr3.out hb4)
    obtain ⟨m0, m1, _, _⟩ := cells2_of (at_below Hm3.out hb4)
    have Hb4 := Lib.hid (Hb3.out.trans (hb4.mono Hb3.out.size))
    clear hb4
    go_wp2_with fail
    exact bodyPost_ret (v := .tuple #[.agg #[.int .i64 n, .int .i64 d], .bool true]) (by simp [results, Tryd.results12, go_sem, (pair_set r0 r1).1, (pair_set r0 r1).2]) rfl ⟨rfl, (Hb4.out.setCell (p := ⟨w.heap.size, 0, none⟩) (Nat.le_refl _) _).setCell (p := ⟨w.heap.size, 1, none⟩) (Nat.le_refl _) _⟩
end Go.Proofs.YtheggkeoheneiaaDoor
