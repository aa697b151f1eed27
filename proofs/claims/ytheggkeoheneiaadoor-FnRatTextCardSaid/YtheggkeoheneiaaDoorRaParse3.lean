/- The specification's ParseRat where no fraction has the text. -/
import Derived.Test.YtheggkeoheneiaaDoorRaParse2
namespace Go.Proofs.YtheggkeoheneiaaDoor
open Go.RowKit

theorem parts_sizes {s : ByteArray} (hs : s.size ≤ 1048576) : ∀ p ∈ Cut.parts 47 s.data.toList, p.size ≤ 1048576 := by
  intro p hp
  unfold Cut.parts at hp
  obtain ⟨l, hl, rfl⟩ := List.mem_map.1 hp
  have hb : ∀ (l acc : List UInt8) (x : List UInt8), x ∈ Cut.cut 47 acc l → x.length ≤ acc.length + l.length := by
    intro l
    induction l with
    | nil => intro acc x hx; simp [Cut.cut] at hx; subst hx; simp
    | cons c r ih =>
      intro acc x hx
      have hx' : x ∈ (if c = 47 then acc :: Cut.cut 47 [] r else Cut.cut 47 (acc ++ [c]) r) := hx
      split at hx'
      · rcases List.mem_cons.1 hx' with rfl | h
        · simp
        · have := ih [] x h; simp at this ⊢; omega
      · have := ih (acc ++ [c]) x hx'; simp at this ⊢; omega
  have := hb _ _ _ hl
  have e : s.data.toList.length = s.size := by simp
  rw [e] at this
  show l.toArray.size ≤ 1048576
  rw [List.size_toArray]
  have e0 : ([] : List UInt8).length = 0 := rfl
  omega
theorem empty_test {s : ByteArray} (h : s.data.toList = []) : s.toList.isEmpty = true ∧ (s.toList == []) = true := by
  rw [ByteArray.toList_eq, h]; exact ⟨rfl, rfl⟩
theorem four_ways : ∀ k1 k2 k3 : Bool, k1 = false ∨ (k1 = true ∧ k2 = false) ∨ (k1 = true ∧ k2 = true ∧ k3 = true) ∨ (k1 = true ∧ k2 = true ∧ k3 = false) := by decide
set_option maxHeartbeats 4000000 in
theorem spec_ParseRat_bad (s : ByteArray) (hno : ∀ n d : Int, Ra.vld n d = true → Ra.txt n d ≠ s.data.toList) (hs : s.size ≤ 1048576) (w : World) :
    Calls Tryd.prog 12 #[.string s] w fun e w' => e = .returned (.tuple #[.agg #[.int .i64 0, .int .i64 0], .bool false]) ∧ Below w.heap.size w w' := by
  have Hr0 := Lib.hid (at_new w (.cells #[.int .i64 0, .int .i64 0] 25))
  have Hb0 := Lib.hid ((Below.refl w.heap.size w).alloc (Nat.le_refl _) (.cells #[.int .i64 0, .int .i64 0] 25))
  have Hs := Lib.hid (spec_Split47 s hs)
  have hsz := parts_sizes hs
  have hl := Cut.cut_length 47 s.data.toList []
  have hn : 1 ≤ (Cut.parts 47 s.data.toList).length ∧ (Cut.parts 47 s.data.toList).length ≤ 1048577 := by
    unfold Cut.parts; rw [List.length_map]
    have e : s.data.toList.length = s.size := by simp
    omega
  obtain ⟨xs, hxs⟩ : ∃ xs, xs = Cut.parts 47 s.data.toList := ⟨_, rfl⟩
  rw [← hxs] at hsz hn
  have Hxs := Lib.hid hxs
  clear hl hxs
  match xs, hn, hsz, Hxs with
  | [], hn, _, _ => exact absurd hn.1 (by decide)
  | [x0], hn, hsz, Hxs =>
    obtain ⟨m, k1, _, q1⟩ := spec_ParseInt_any x0 (by have := hsz x0 (by simp); omega)
    have Q1 := Lib.hid q1
    have hem : Hid ((s.toList.isEmpty = true ∧ (s.toList == []) = true) ∨ ((s.toList.isEmpty = false ∧ (s.toList == []) = false) ∧ (Ra.fmt m 1 == s.toList) = false)) := by
      by_cases h0 : s.data.toList = []
      · exact .inl (empty_test h0)
      · exact .inr ⟨not_empty h0, str_ne' s (fmt_other hno h0 m 1)⟩
    clear q1 hno hsz hn
    go_enter Tryd.func12, Tryd.ntmps12
    go_wp2_with fail
    refine (Hs.out _).mono ?_
    rintro e w1 ⟨pv, rfl, ho1, hb1⟩
    rw [← Hxs.out] at ho1
    obtain ⟨g, cap, rfl, hg, hcells⟩ := row_cells ho1 (by simp)
    have c0 := hcells 0 _ rfl
    have Hb1 := Lib.hid (Hb0.out.trans (hb1.mono Hb0.out.size))
    have Hr1 := Lib.hid (at_below Hr0.out hb1)
    clear hcells ho1 hb1
    go_wp2_with fail
    refine (Q1.out _).mono ?_
    rintro e w2 ⟨rfl, hb2⟩
    have Hb2 := Lib.hid ((Hb1.out.trans (hb2.mono Hb1.out.size)).alloc (Hb1.out.trans (hb2.mono Hb1.out.size)).size (.cells #[.int .i64 m, .int .i64 1] 25))
    have Hr2 := Lib.hid (at_alloc (at_below Hr1.out hb2) (.cells #[.int .i64 m, .int .i64 1] 25))
    clear hb2 c0
    cases k1 with
    | false =>
      obtain ⟨r0, r1, z0, z1⟩ := cells2_of Hr2.out
      go_wp2_with fail
      exact bodyPost_ret (v := .tuple #[.agg #[.int .i64 0, .int .i64 0], .bool false]) (by simp [results, Tryd.results12, go_sem, (pair_set r0 r1).1, (pair_set r0 r1).2]) rfl ⟨rfl, (Hb2.out.setCell (p := ⟨w.heap.size, 0, none⟩) (Nat.le_refl _) _).setCell (p := ⟨w.heap.size, 1, none⟩) (Nat.le_refl _) _⟩
    | true =>
      rcases hem.out with ⟨e1, e2⟩ | ⟨⟨e1, e2⟩, hcmp⟩
      · obtain ⟨r0, r1, z0, z1⟩ := cells2_of Hr2.out
        go_wp2_with fail
        exact bodyPost_ret (v := .tuple #[.agg #[.int .i64 0, .int .i64 0], .bool false]) (by simp [results, Tryd.results12, go_sem, (pair_set r0 r1).1, (pair_set r0 r1).2]) rfl ⟨rfl, (Hb2.out.setCell (p := ⟨w.heap.size, 0, none⟩) (Nat.le_refl _) _).setCell (p := ⟨w.heap.size, 1, none⟩) (Nat.le_refl _) _⟩
      · go_wp2_with fail
        refine (spec_FormatRat m 1 _).mono ?_
        rintro e w4 ⟨rfl, hb4⟩
        obtain ⟨r0, r1, z0, z1⟩ := cells2_of (at_below Hr2.out hb4)
        have Hb4 := Lib.hid (Hb2.out.trans (hb4.mono Hb2.out.size))
        clear hb4
        go_wp2_with fail
        exact bodyPost_ret (v := .tuple #[.agg #[.int .i64 0, .int .i64 0], .bool false]) (by simp [results, Tryd.results12, go_sem, (pair_set r0 r1).1, (pair_set r0 r1).2]) rfl ⟨rfl, (Hb4.out.setCell (p := ⟨w.heap.size, 0, none⟩) (Nat.le_refl _) _).setCell (p := ⟨w.heap.size, 1, none⟩) (Nat.le_refl _) _⟩
  | x0 :: x1 :: rest, hn, hsz, Hxs =>
    obtain ⟨m, k1, _, q1⟩ := spec_ParseInt_any x0 (by have := hsz x0 (by simp); omega)
    obtain ⟨m2, k2, _, q2⟩ := spec_ParseInt_any x1 (by have := hsz x1 (by simp); omega)
    have Q1 := Lib.hid q1
    have Q2 := Lib.hid q2
    have hem : Hid ((s.toList.isEmpty = true ∧ (s.toList == []) = true) ∨ ((s.toList.isEmpty = false ∧ (s.toList == []) = false) ∧ (Ra.fmt m m2 == s.toList) = false)) := by
      by_cases h0 : s.data.toList = []
      · exact .inl (empty_test h0)
      · exact .inr ⟨not_empty h0, str_ne' s (fmt_other hno h0 m m2)⟩
    obtain ⟨L, hL⟩ : ∃ L, L = (x0 :: x1 :: rest).length := ⟨_, rfl⟩
    have HL := Lib.hid hL
    have hL2 : 2 ≤ L := by rw [hL]; simp
    have hL3 : L ≤ 1048577 := by rw [hL]; exact hn.2
    have c2 : decide ((1 : Int) < (L : Int)) = true := by rw [decide_eq_true_iff]; omega
    clear q1 q2 hno hsz hn hL
    go_enter Tryd.func12, Tryd.ntmps12
    go_wp2_with fail
    refine (Hs.out _).mono ?_
    rintro e w1 ⟨pv, rfl, ho1, hb1⟩
    rw [← Hxs.out] at ho1
    obtain ⟨g, cap, rfl, hg, hcells⟩ := row_cells ho1 (by simp)
    have c0 := hcells 0 _ rfl
    have c1 := hcells 1 _ rfl
    rw [← HL.out]
    have Hb1 := Lib.hid (Hb0.out.trans (hb1.mono Hb0.out.size))
    have Hr1 := Lib.hid (at_below Hr0.out hb1)
    clear hcells ho1 hb1
    go_wp2_with fail
    refine (Q1.out _).mono ?_
    rintro e w2 ⟨rfl, hb2⟩
    have Hb2 := Lib.hid (Hb1.out.trans (hb2.mono Hb1.out.size))
    have Hr2 := Lib.hid (at_below Hr1.out hb2)
    have c1' := cell_after hb2 (p := ⟨g, 1, none⟩) hg c1
    clear hb2 c0 c1
    go_wp2_with fail
    refine (Q2.out _).mono ?_
    rintro e w3 ⟨rfl, hb3⟩
    have Hb3 := Lib.hid ((Hb2.out.trans (hb3.mono Hb2.out.size)).alloc (Hb2.out.trans (hb3.mono Hb2.out.size)).size (.cells #[.int .i64 m, .int .i64 m2] 25))
    have Hr3 := Lib.hid (at_alloc (at_below Hr2.out hb3) (.cells #[.int .i64 m, .int .i64 m2] 25))
    clear hb3 c1'
    have hcase := Lib.hid (four_ways k1 k2 (decide ((2 : Int) < (L : Int))))
    rcases hcase.out with rfl | ⟨rfl, rfl⟩ | ⟨rfl, rfl, d2⟩ | ⟨rfl, rfl, d2⟩
    · obtain ⟨r0, r1, z0, z1⟩ := cells2_of Hr3.out
      go_wp2_with fail
      exact bodyPost_ret (v := .tuple #[.agg #[.int .i64 0, .int .i64 0], .bool false]) (by simp [results, Tryd.results12, go_sem, (pair_set r0 r1).1, (pair_set r0 r1).2]) rfl ⟨rfl, (Hb3.out.setCell (p := ⟨w.heap.size, 0, none⟩) (Nat.le_refl _) _).setCell (p := ⟨w.heap.size, 1, none⟩) (Nat.le_refl _) _⟩
    · obtain ⟨r0, r1, z0, z1⟩ := cells2_of Hr3.out
      go_wp2_with fail
      exact bodyPost_ret (v := .tuple #[.agg #[.int .i64 0, .int .i64 0], .bool false]) (by simp [results, Tryd.results12, go_sem, (pair_set r0 r1).1, (pair_set r0 r1).2]) rfl ⟨rfl, (Hb3.out.setCell (p := ⟨w.heap.size, 0, none⟩) (Nat.le_refl _) _).setCell (p := ⟨w.heap.size, 1, none⟩) (Nat.le_refl _) _⟩
    · obtain ⟨r0, r1, z0, z1⟩ := cells2_of Hr3.out
      go_wp2_with fail
      exact bodyPost_ret (v := .tuple #[.agg #[.int .i64 0, .int .i64 0], .bool false]) (by simp [results, Tryd.results12, go_sem, (pair_set r0 r1).1, (pair_set r0 r1).2]) rfl ⟨rfl, (Hb3.out.setCell (p := ⟨w.heap.size, 0, none⟩) (Nat.le_refl _) _).setCell (p := ⟨w.heap.size, 1, none⟩) (Nat.le_refl _) _⟩
    · rcases hem.out with ⟨e1, e2⟩ | ⟨⟨e1, e2⟩, hcmp⟩
      · obtain ⟨r0, r1, z0, z1⟩ := cells2_of Hr3.out
        go_wp2_with fail
        exact bodyPost_ret (v := .tuple #[.agg #[.int .i64 0, .int .i64 0], .bool false]) (by simp [results, Tryd.results12, go_sem, (pair_set r0 r1).1, (pair_set r0 r1).2]) rfl ⟨rfl, (Hb3.out.setCell (p := ⟨w.heap.size, 0, none⟩) (Nat.le_refl _) _).setCell (p := ⟨w.heap.size, 1, none⟩) (Nat.le_refl _) _⟩
      · go_wp2_with fail
        refine (spec_FormatRat m m2 _).mono ?_
        rintro e w4 ⟨rfl, hb4⟩
        obtain ⟨r0, r1, z0, z1⟩ := cells2_of (at_below Hr3.out hb4)
        have Hb4 := Lib.hid (Hb3.out.trans (hb4.mono Hb3.out.size))
        clear hb4
        go_wp2_with fail
        exact bodyPost_ret (v := .tuple #[.agg #[.int .i64 0, .int .i64 0], .bool false]) (by simp [results, Tryd.results12, go_sem, (pair_set r0 r1).1, (pair_set r0 r1).2]) rfl ⟨rfl, (Hb4.out.setCell (p := ⟨w.heap.size, 0, none⟩) (Nat.le_refl _) _).setCell (p := ⟨w.heap.size, 1, none⟩) (Nat.le_refl _) _⟩
end Go.Proofs.YtheggkeoheneiaaDoor
