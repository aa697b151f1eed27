/- ParseRat on both sides, at every text: the valid fraction whose text it is, else none. Conditions: the tables and errors that strconv reads are laid (impl's); the text has at most 2^20 bytes. -/
import Derived.Test.YtheggkeoheneiaaDoorRaFmt
import Derived.Test.YtheggkeoheneiaaDoorSpRead
import Derived.Test.YtheggkeoheneiaaDoorSpSplit
import Derived.Test.YtheggkeoheneiaaDoorShelf
import Derived.Lib.IndexBytes
namespace Go.Proofs.YtheggkeoheneiaaDoor
open Go.RowKit

theorem row_cells {B : Nat} {w : World} {v : Value} {xs : List ByteArray} (h : OwnStrs B w v xs) (h0 : 1 ≤ xs.length) :
    ∃ g cap, v = .slice (some ⟨g, 0, none⟩) xs.length cap ∧ g < w.heap.size ∧ ∀ j x, xs[j]? = some x → w.cell? ⟨g, j, none⟩ = some (.string x) := by
  have h' := h
  obtain ⟨h1, h2 | ⟨g, cap, cur, hv, hg, hh, hr⟩⟩ := h'
  · exact absurd h2.2 (by omega)
  · subst hv
    refine ⟨g, cap, rfl, lt_of_block hh, fun j x hx => ?_⟩
    have hj : j < xs.length := (List.getElem?_eq_some_iff.1 hx).1
    have := World.ownsRow.cellAt h j (by omega)
    rw [this]
    simp [hx]
theorem at_alloc {w : World} {p : Nat} {o : Obj} (h : w.heap[p]? = some o) (o2 : Obj) : (w.alloc o2).heap[p]? = some o := by
  rw [Below.heap_alloc _ _ _ (lt_of_at h)]; exact h
theorem at_new (w : World) (o : Obj) : (w.alloc o).heap[w.heap.size]? = some o := by show (w.heap.push o)[w.heap.size]? = some o; simp
theorem at_below {w w' : World} {p : Nat} {o : Obj} (h : w.heap[p]? = some o) (hb : Below w.heap.size w w') : w'.heap[p]? = some o := (hb.block p (lt_of_at h)).trans h

theorem spec_ParseInt_any (t : ByteArray) (hsz : t.size ≤ 281474976710656) : ∃ (m : Int) (k : Bool), (k = true → Lib.itoa m = t.data.toList) ∧
    ∀ w, Calls Tryd.prog 29 #[.string t] w fun e w' => e = .returned (.tuple #[.int .i64 m, .bool k]) ∧ Below w.heap.size w w' := by
  by_cases h : ∃ n : Int, -999999999999 ≤ n ∧ n ≤ 999999999999 ∧ Lib.itoa n = t.data.toList
  · obtain ⟨n, h0, h1, hn⟩ := h
    exact ⟨n, true, fun _ => hn, spec_ParseInt_ok t n hn h0 h1 hsz⟩
  · exact ⟨0, false, (fun h => by cases h), spec_ParseInt_bad t (fun n a b c => h ⟨n, a, b, c⟩) hsz⟩
theorem impl_ParseInt_any (t : ByteArray) (hsz : t.size ≤ 281474976710656) : ∃ (m : Int) (k : Bool), (k = true → Lib.itoa m = t.data.toList) ∧
    ∀ w, Tabs w → Calls Tryd.prog 23 #[.string t] w fun e w' => e = .returned (.tuple #[.int .i64 m, .bool k]) ∧ Below w.heap.size w w' := by
  by_cases h : ∃ n : Int, -999999999999 ≤ n ∧ n ≤ 999999999999 ∧ Lib.itoa n = t.data.toList
  · obtain ⟨n, h0, h1, hn⟩ := h
    exact ⟨n, true, fun _ => hn, fun w hw => impl_ParseInt_ok t n hn h0 h1 w hw⟩
  · exact ⟨0, false, (fun h => by cases h), fun w hw => impl_ParseInt_bad t (fun n a b c => h ⟨n, a, b, c⟩) hsz w hw⟩

/-- strings.Cut at the slash. -/
def CutIs (s pre post : ByteArray) (f : Bool) : Prop :=
  ∀ w : World, Calls Tryd.prog 22 #[.string s, .string ⟨#[47]⟩] w fun e w' => e = .returned (.tuple #[.string pre, .string post, .bool f]) ∧ ∃ n, w' = w.drewN n
theorem cut_no (s : ByteArray) (h : Lib.indexByte s.data.toList 47 = -1) : CutIs s s ⟨#[]⟩ false := by
  intro w
  have H := Lib.hid h
  clear h
  have hc : ∀ w : World, Calls Tryd.prog 35 #[.string s, .string ⟨#[47]⟩] w fun e w' => e = .returned (.tuple #[.string s, .string ⟨#[]⟩, .bool false]) ∧ ∃ n, w' = w.drewN n := by
    intro w
    go_enter Tryd.func35, Tryd.ntmps35
    go_wp2_with fail
    refine (Tryd.stringslite_Index_one s 47 w).mono ?_
    rintro e w1 ⟨rfl, rfl⟩
    rw [H.out]
    go_wp2_with fail
    go_ret3
    exact ⟨rfl, 0, rfl⟩
  have Hc := Lib.hid hc
  clear hc
  go_enter Tryd.func22, Tryd.ntmps22
  go_wp2_with fail
  refine (Hc.out w).mono ?_
  rintro e w1 ⟨rfl, n, rfl⟩
  go_wp2_with fail
  go_ret3
  exact ⟨rfl, n, rfl⟩
theorem cut_yes (s : ByteArray) (k : Nat) (h : Lib.indexByte s.data.toList 47 = (k : Int)) (hk : k < s.size) (hs : s.size ≤ 1048576) : CutIs s (s.extract 0 k) (s.extract (k + 1) s.size) true := by
  intro w
  have H := Lib.hid h
  clear h
  have hc : ∀ w : World, Calls Tryd.prog 35 #[.string s, .string ⟨#[47]⟩] w fun e w' => e = .returned (.tuple #[.string (s.extract 0 k), .string (s.extract (k + 1) s.size), .bool true]) ∧ ∃ n, w' = w.drewN n := by
    intro w
    have b1 : (0 : Int) ≤ (k : Int) := by omega
    have b2 : (k : Int) ≤ (s.size : Int) := by omega
    have b3 : (k : Int) + 1 ≤ (s.size : Int) := by omega
    have b4 : k ≤ s.size := by omega
    have b5 : k + 1 ≤ s.size := by omega
    go_enter Tryd.func35, Tryd.ntmps35
    go_wp2_with fail
    refine (Tryd.stringslite_Index_one s 47 w).mono ?_
    rintro e w1 ⟨rfl, rfl⟩
    rw [H.out]
    go_wp2_with fail
    go_quiet (fail)
    go_wp2_with fail
    go_ret3
    exact ⟨rfl, _, rfl⟩
  have Hc := Lib.hid hc
  clear hc
  go_enter Tryd.func22, Tryd.ntmps22
  go_wp2_with fail
  refine (Hc.out w).mono ?_
  rintro e w1 ⟨rfl, n, rfl⟩
  go_wp2_with fail
  go_ret3
  exact ⟨rfl, n, rfl⟩

theorem str_eq' {a b : List UInt8} (h : a = b) (s : ByteArray) (hs : b = s.data.toList) : (a == s.toList) = true := by
  rw [beq_iff_eq, ByteArray.toList_eq, ← hs, h]
theorem str_ne' {a : List UInt8} (s : ByteArray) (h : a ≠ s.data.toList) : (a == s.toList) = false := by
  rw [beq_eq_false_iff_ne, ByteArray.toList_eq]; exact h
theorem bytes_ext {a : ByteArray} {l : List UInt8} (h : a.data.toList = l) : a = ⟨l.toArray⟩ := by
  apply ByteArray.ext; subst h; simp
/-- The parts that the slash leaves, as impl sees them. -/
theorem cut_txt {s : ByteArray} {n d : Int} (hs : s.size ≤ 1048576) (h : Ra.txt n d = s.data.toList) :
    (d = 1 ∧ CutIs s s ⟨#[]⟩ false) ∨ (d ≠ 1 ∧ CutIs s ⟨(Lib.itoa n).toArray⟩ ⟨(Lib.itoa d).toArray⟩ true) := by
  by_cases hd : d = 1
  · refine .inl ⟨hd, cut_no s ?_⟩
    subst hd
    rw [← h]
    exact Ra.index_none 47 _ (Ra.itoa_no_slash n)
  · refine .inr ⟨hd, ?_⟩
    have ht : s.data.toList = Lib.itoa n ++ 47 :: Lib.itoa d := by rw [← h]; unfold Ra.txt; rw [if_neg hd]
    have hl : s.size = (Lib.itoa n).length + ((Lib.itoa d).length + 1) := by
      have : s.data.toList.length = s.size := by simp
      rw [← this, ht, List.length_append, List.length_cons]
    have hc := cut_yes s (Lib.itoa n).length (by rw [ht]; exact Ra.index_at 47 _ _ (Ra.itoa_no_slash n)) (by omega) hs
    have e1 : s.extract 0 (Lib.itoa n).length = ⟨(Lib.itoa n).toArray⟩ := bytes_ext (by rw [Lib.extract_data, ht]; simp)
    have e2 : s.extract ((Lib.itoa n).length + 1) s.size = ⟨(Lib.itoa d).toArray⟩ := bytes_ext (by
      rw [Lib.extract_data, ht, hl]
      have e : (Lib.itoa n ++ 47 :: Lib.itoa d).drop ((Lib.itoa n).length + 1) = Lib.itoa d := by
        rw [List.drop_append]; simp
      rw [e]
      exact List.take_of_length_le (by omega))
    rw [e1, e2] at hc
    exact hc
/-- Where none has the text: the parts are some texts, and whatever they read as, its text is another. -/
theorem cut_any (s : ByteArray) (hs : s.size ≤ 1048576) : ∃ (pre post : ByteArray) (f : Bool), CutIs s pre post f ∧ pre.size ≤ 1048576 ∧ post.size ≤ 1048576 ∧ (s.data.toList = [] → pre.data.toList = []) := by
  rcases Int.lt_or_le (Lib.indexByte s.data.toList 47) 0 with h | h
  · have hge := Lib.indexByte_ge s.data.toList 47
    exact ⟨s, ⟨#[]⟩, false, cut_no s (by omega), hs, by decide, id⟩
  · obtain ⟨k, hk⟩ := Int.eq_ofNat_of_zero_le h
    have hlt := Cut.indexByte_lt 47 s.data.toList
    have e : s.data.toList.length = s.size := by simp
    have hks : k < s.size := by omega
    refine ⟨_, _, true, cut_yes s k hk hks hs, by simp; omega, by simp; omega, fun h0 => ?_⟩
    rw [h0] at e
    simp at e
    omega
theorem fmt_other {l : List UInt8} (hno : ∀ n d : Int, Ra.vld n d = true → Ra.txt n d ≠ l) (hl : l ≠ []) (n d : Int) : Ra.fmt n d ≠ l := by
  rcases h : Ra.vld n d with _ | _
  · rw [Ra.fmt_no h]; exact hl.symm
  · rw [Ra.fmt_yes h]; exact hno n d h

set_option maxHeartbeats 2000000 in
theorem impl_ParseRat_ok (s : ByteArray) (n d : Int) (hv : Ra.vld n d = true) (h : Ra.txt n d = s.data.toList) (hs : s.size ≤ 1048576) (w : World) (ht : Tabs w) :
    Calls Tryd.prog 8 #[.string s] w fun e w' => e = .returned (.tuple #[.agg #[.int .i64 n, .int .i64 d], .bool true]) ∧ Below w.heap.size w w' := by
  have v := Ra.vld_yes hv
  have hcmp := str_eq' (Ra.fmt_yes hv) s h
  have Hcut := Lib.hid (cut_txt hs h)
  have Ht0 := Lib.hid (ht.below ((Below.refl _ _).alloc (Nat.le_refl _) (.cells #[.int .i64 0, .int .i64 0] 25)))
  have Hr0 := Lib.hid (at_new w (.cells #[.int .i64 0, .int .i64 0] 25))
  have Hb0 := Lib.hid ((Below.refl w.heap.size w).alloc (Nat.le_refl _) (.cells #[.int .i64 0, .int .i64 0] 25))
  have p1 : ∀ W : World, Tabs W → Calls Tryd.prog 23 #[.string ⟨(Lib.itoa n).toArray⟩] W fun e w' => e = .returned (.tuple #[.int .i64 n, .bool true]) ∧ Below W.heap.size W w' := fun W hW => impl_ParseInt_ok _ n (by simp) (by omega) (by omega) W hW
  have p2 : ∀ W : World, Tabs W → Calls Tryd.prog 23 #[.string ⟨(Lib.itoa d).toArray⟩] W fun e w' => e = .returned (.tuple #[.int .i64 d, .bool true]) ∧ Below W.heap.size W w' := fun W hW => impl_ParseInt_ok _ d (by simp) (by omega) (by omega) W hW
  have es : d = 1 → s = ⟨(Lib.itoa n).toArray⟩ := fun hd => by subst hd; exact bytes_ext h.symm
  have e1 : (⟨(Lib.itoa 1).toArray⟩ : ByteArray) = ⟨#[49]⟩ := by decide +kernel
  have Hk : Hid (∃ (pre post post' : ByteArray) (f : Bool), CutIs s pre post f ∧ ((f = false ∧ post' = ⟨#[49]⟩) ∨ (f = true ∧ post' = post)) ∧
      (∀ W : World, Tabs W → Calls Tryd.prog 23 #[.string pre] W fun e w' => e = .returned (.tuple #[.int .i64 n, .bool true]) ∧ Below W.heap.size W w') ∧
      (∀ W : World, Tabs W → Calls Tryd.prog 23 #[.string post'] W fun e w' => e = .returned (.tuple #[.int .i64 d, .bool true]) ∧ Below W.heap.size W w')) := by
    rcases Hcut.out with ⟨hd, hc⟩ | ⟨hd, hc⟩
    · refine ⟨s, ⟨#[]⟩, ⟨#[49]⟩, false, hc, .inl ⟨rfl, rfl⟩, ?_, ?_⟩
      · have e := es hd; intro W hW; have := p1 W hW; rw [← e] at this; exact this
      · rw [← e1]; subst hd; exact p2
    · exact ⟨_, _, _, true, hc, .inr ⟨rfl, rfl⟩, p1, p2⟩
  clear Hcut es e1 p1 p2 v ht h hv
  obtain ⟨pre, post, post', f, hc, hf, q1, q2⟩ := Hk.out
  have HC := Lib.hid hc
  have Q1 := Lib.hid q1
  have Q2 := Lib.hid q2
  clear Hk hc q1 q2
  rcases hf with ⟨rfl, rfl⟩ | ⟨rfl, rfl⟩
  all_goals
    go_enter Tryd.func8, Tryd.ntmps8
    go_wp2_with fail
    refine (HC.out _).mono ?_
    rintro e w1 ⟨rfl, k, rfl⟩
    have Ht1 := Lib.hid (Ht0.out.below (below_drewN (Below.refl _ _) k))
    have Hb1 := Lib.hid (below_drewN Hb0.out k)
    have Hr1 := Lib.hid (show ((w.alloc (.cells #[.int .i64 0, .int .i64 0] 25)).drewN k).heap[w.heap.size]? = _ from Hr0.out)
    go_wp2_with fail
    refine (Q1.out _ Ht1.out).mono ?_
    rintro e w2 ⟨rfl, hb2⟩
    have Ht2 := Lib.hid (Ht1.out.below hb2)
    have Hb2 := Lib.hid (Hb1.out.trans (hb2.mono Hb1.out.size))
    have Hr2 := Lib.hid (at_below Hr1.out hb2)
    clear hb2
    go_wp2_with fail
    refine (Q2.out _ Ht2.out).mono ?_
    rintro e w3 ⟨rfl, hb3⟩
    have Ht3 := Lib.hid ((Ht2.out.below hb3).below ((Below.refl _ _).alloc (Nat.le_refl _) (.cells #[.int .i64 n, .int .i64 d] 25)))
    have Hb3 := Lib.hid ((Hb2.out.trans (hb3.mono Hb2.out.size)).alloc (Hb2.out.trans (hb3.mono Hb2.out.size)).size (.cells #[.int .i64 n, .int .i64 d] 25))
    have Hr3 := Lib.hid (at_alloc (at_below Hr2.out hb3) (.cells #[.int .i64 n, .int .i64 d] 25))
    have Hm3 := Lib.hid (at_new w3 (.cells #[.int .i64 n, .int .i64 d] 25))
    clear hb3
    go_wp2_with fail
    refine (impl_FormatRat n d _ Ht3.out.pow).mono ?_
    rintro e w4 ⟨rfl, hb4⟩
    obtain ⟨r0, r1, z0, z1⟩ := cells2_of (at_below Hr3.out hb4)
    obtain ⟨m0, m1, _, _⟩ := cells2_of (at_below Hm3.out hb4)
    have Hb4 := Lib.hid (Hb3.out.trans (hb4.mono Hb3.out.size))
    clear hb4
    go_wp2_with fail
    exact bodyPost_ret (v := .tuple #[.agg #[.int .i64 n, .int .i64 d], .bool true]) (by simp [results, Tryd.results8, go_sem, (pair_set r0 r1).1, (pair_set r0 r1).2]) rfl ⟨rfl, (Hb4.out.setCell (p := ⟨w.heap.size, 0, none⟩) (Nat.le_refl _) _).setCell (p := ⟨w.heap.size, 1, none⟩) (Nat.le_refl _) _⟩
end Go.Proofs.YtheggkeoheneiaaDoor
