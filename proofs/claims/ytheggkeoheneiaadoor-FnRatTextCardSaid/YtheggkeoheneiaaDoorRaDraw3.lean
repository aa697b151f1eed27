/- The draws of FnRatText: a fraction; a text that is turned a little. -/
import Derived.Test.YtheggkeoheneiaaDoorRaDraw
import Derived.Test.YtheggkeoheneiaaDoorRaFmt
namespace Go.Proofs.YtheggkeoheneiaaDoor
open Go.RowKit

def OneRat (w : World) (e : Ending) (w' : World) : Prop := ∃ n d : Int, e = .returned (.agg #[.int .i64 n, .int .i64 d]) ∧ Below w.heap.size w w'
theorem at_alloc3 {w : World} {p : Nat} {o : Obj} (h : w.heap[p]? = some o) (o2 : Obj) : (w.alloc o2).heap[p]? = some o := by
  rw [Below.heap_alloc _ _ _ (lt_of_at h)]; exact h
set_option maxHeartbeats 1000000 in
theorem spec_DrawFormatRat (a : Option Addr) (len cap : Nat) (w : World) (hcode : CodeAt w.heap.size w a len) :
    Calls Tryd.prog 6 #[.slice a len cap] w (OneRat w) := by
  have hb0 : Below w.heap.size w (w.alloc (.cells #[.int .i64 0, .int .i64 0] 25)) := (Below.refl _ _).alloc (Nat.le_refl _) _
  have Hs0 := Lib.hid (size1 w (.cells #[.int .i64 0, .int .i64 0] 25))
  have Hb0 := Lib.hid hb0
  have Hc0 := Lib.hid (hcode.below hb0)
  have Ha0 := Lib.hid (new_at w (.cells #[.int .i64 0, .int .i64 0] 25))
  clear hb0 hcode
  go_enter Tryd.func6, Tryd.ntmps6
  go_wp2_with fail
  refine (spec_l1New w.heap.size a len cap _ Hc0.out).mono ?_
  rintro e w1 ⟨rfl, hc1, hb1, hsz⟩
  rw [Hs0.out] at hc1 hb1 hsz ⊢
  have Hb1 := Lib.hid (Hb0.out.trans (hb1.mono (by omega)))
  have Hc1 := Lib.hid (Hc0.out.below (hb1.mono (by omega)))
  have Hu1 := Lib.hid hc1
  have Ha1 := Lib.hid ((hb1.block w.heap.size (by omega)).trans Ha0.out)
  clear hc1 hb1 Hb0 Hc0 Ha0 Hs0
  go_wp2_with fail
  refine (spec_l3Draw w.heap.size (w.heap.size + 1) a len cap w1 (by omega) Hu1.out Hc1.out).mono ?_
  rintro e w2 ⟨n, d, rfl, hc2, ho2⟩
  have Hb2 := Lib.hid (Hb1.out.trans (ho2.below (by omega)))
  obtain ⟨r0, r1, z0, z1⟩ := cells2_of ((ho2.block (by omega) (lt_of_at Ha1.out)).trans Ha1.out)
  clear hc2 ho2
  go_wp2_with fail
  exact bodyPost_ret (v := .agg #[.int .i64 n, .int .i64 d]) (by simp [results, Tryd.results6, go_sem, (pair_set r0 r1).1, (pair_set r0 r1).2]) rfl ⟨n, d, rfl, (Hb2.out.setCell (p := ⟨w.heap.size, 0, none⟩) (Nat.le_refl _) _).setCell (p := ⟨w.heap.size, 1, none⟩) (Nat.le_refl _) _⟩

def OneText (B : Nat) (m : Nat) (w : World) (e : Ending) (w' : World) : Prop := ∃ x : ByteArray, e = .returned (.string x) ∧ x.size ≤ m ∧ Below B w w'
set_option maxHeartbeats 2000000 in
theorem spec_l1Turned (B p q : Nat) (a : Option Addr) (len cap c2 : Nat) (s : ByteArray) (hs : s.size ≤ 60) (ss : List ByteArray) (hs1 : 1 ≤ ss.length) (hs2 : ss.length ≤ 1000000) (hss : ∀ v ∈ ss, v.size ≤ 1) (w : World) (hB : B ≤ p) (hq : q ≠ p) (hql : q < w.heap.size)
    (hl : ListAt w q (ss.map Value.string)) (hcur : Cur w p a len cap) (hcode : CodeAt B w a len) :
    Calls Tryd.prog 27 #[.pointer (some ⟨p, 0, none⟩), .string s, .slice (some ⟨q, 0, none⟩) ss.length c2] w (OneText B 61 w) := by
  have Hc := Lib.hid hcode
  have Hu := Lib.hid hcur
  have Hl := Lib.hid hl
  have Hss := Lib.hid hss
  obtain ⟨m, hm⟩ : ∃ m, m = ss.length := ⟨_, rfl⟩
  have Hm := Lib.hid hm
  rw [← hm]
  clear hcode hcur hl hss hm
  go_enter Tryd.func27, Tryd.ntmps27
  go_wp2_with fail
  refine (spec_l1Below B p a len cap _ (by omega) (by omega) w hB Hu.out Hc.out).mono ?_
  rintro e w1 ⟨x1, rfl, hx0, hx1, hc1, ho1⟩
  obtain ⟨j, rfl⟩ := Int.eq_ofNat_of_zero_le hx0
  have Hc1 := Lib.hid (Hc.out.below (ho1.below hB))
  have Hu1 := Lib.hid hc1
  have Ho1 := Lib.hid ho1
  clear hc1 ho1
  go_wp2_with fail
  refine (spec_l1Below B p a len cap 6 (by decide) (by decide) w1 hB Hu1.out Hc1.out).mono ?_
  rintro e w2 ⟨x2, rfl, hy0, hy1, hc2, ho2⟩
  have Hc2 := Lib.hid (Hc1.out.below (ho2.below hB))
  have Hu2 := Lib.hid hc2
  have Ho2 := Lib.hid (Ho1.out.trans ho2)
  clear hc2 ho2
  have b2 : j ≤ s.size := by omega
  have b3 : (j : Int) ≤ (s.size : Int) := by omega
  have key : (x2 = 0 ∨ x2 = 1) ∨ ((x2 == 0) = false ∧ (x2 == 1) = false) := by
    by_cases h0 : x2 = 0
    · exact .inl (.inl h0)
    · by_cases h1 : x2 = 1
      · exact .inl (.inr h1)
      · exact .inr ⟨by rw [beq_eq_false_iff_ne]; exact h0, by rw [beq_eq_false_iff_ne]; exact h1⟩
  rcases key with (rfl | rfl) | ⟨k1, k2⟩
  · have Hpick := Lib.hid (fun (W : World) (h : W = w2 ∨ W = w2.drew) => show Calls Tryd.prog 39 #[.pointer (some ⟨p, 0, none⟩), .slice (some ⟨q, 0, none⟩) m c2] W fun e w' => ∃ v : ByteArray, (e = .returned (.string v) ∧ v.size ≤ 1) ∧ Below B w w' from by
      have hcu : Cur W p a len cap := by rcases h with rfl | rfl <;> exact Hu2.out
      have hco : CodeAt B W a len := by rcases h with rfl | rfl <;> exact Hc2.out
      have hli : ListAt W q (ss.map Value.string) := by rcases h with rfl | rfl; exact Hl.out.only Ho2.out hq hql; exact Hl.out.only Ho2.out.drew hq hql
      have hbe : Below B w W := by rcases h with rfl | rfl; exact Ho2.out.below hB; exact (Ho2.out.below hB).drew
      have hsz : q < W.heap.size := by have := hbe.size; rcases h with rfl | rfl <;> exact Nat.lt_of_lt_of_le hql Ho2.out.low.size
      rw [Hm.out]
      exact (spec_l1Pick B p q a len cap c2 ss hs1 hs2 W hB hq hsz hli hcu hco).mono fun e w' ⟨v, he, hv, _, ho⟩ => by
        obtain ⟨y, hy, rfl⟩ := List.mem_map.1 hv
        exact ⟨y, ⟨he, Hss.out y hy⟩, hbe.trans (ho.below hB)⟩)
    have z1 : (s.extract 0 j).size ≤ 60 := by simp; omega
    have z2 : (s.extract j s.size).size ≤ 60 := by simp; omega
    have z3 : (s.extract 0 j).size + (s.extract j s.size).size = s.size := by simp; omega
    clear Hc Hu Hl Hss Hm Hc1 Hu1 Ho1 Hc2 Hu2
    go_wp2_with fail
    go_region_with (go_at_call 39; refine (Hpick.out _ (by first | exact .inl rfl | exact .inr rfl)).mono ?_; rintro e w3 ⟨v, ⟨rfl, hv⟩, hb⟩; have Hb := Lib.hid hb; clear hb)
    all_goals
      go_wp2_with fail
      go_ret
      exact ⟨_, rfl, by simp [ByteArray.size_append]; omega, Hb.out⟩
  · go_wp2_with fail
    go_ret
    exact ⟨_, rfl, by simp; omega, Ho2.out.below hB⟩
  · go_wp2_with fail
    go_ret
    exact ⟨_, rfl, by omega, Ho2.out.below hB⟩

def turns : List ByteArray := [⟨#[47]⟩, ⟨#[45]⟩, ⟨#[48]⟩, ⟨#[50]⟩, ⟨#[32]⟩]
theorem turns_bd : ∀ v ∈ turns, v.size ≤ 1 := by unfold turns; decide
theorem turns_cells : (turns.map Value.string).toArray = #[.string ⟨#[47]⟩, .string ⟨#[45]⟩, .string ⟨#[48]⟩, .string ⟨#[50]⟩, .string ⟨#[32]⟩] := rfl
theorem fmt_len (n d : Int) : (ByteArray.mk (Ra.fmt n d).toArray).size ≤ 60 := by
  show (Ra.fmt n d).toArray.size ≤ 60
  rw [List.size_toArray]
  rcases h : Ra.vld n d with _ | _
  · rw [Ra.fmt_no h]; simp
  · have v := Ra.vld_yes h
    have h1 := Lib.itoa_length_le n (by omega) (by omega)
    have h2 := Lib.itoa_length_le d (by omega) (by omega)
    rw [Ra.fmt_yes h]
    unfold Ra.txt
    split
    · omega
    · simp; omega
set_option maxHeartbeats 1000000 in
theorem spec_DrawParseRat (a : Option Addr) (len cap : Nat) (w : World) (hcode : CodeAt w.heap.size w a len) :
    Calls Tryd.prog 11 #[.slice a len cap] w (OneText w.heap.size 61 w) := by
  have Hc := Lib.hid hcode
  clear hcode
  go_enter Tryd.func11, Tryd.ntmps11
  go_wp2_with fail
  refine (spec_l1New w.heap.size a len cap w Hc.out).mono ?_
  rintro e w1 ⟨rfl, hc1, hb1, hsz⟩
  have Hc1 := Lib.hid (Hc.out.below hb1)
  have Hu1 := Lib.hid hc1
  have Hb1 := Lib.hid hb1
  clear hc1 hb1 hsz
  go_wp2_with fail
  refine (spec_l3Draw w.heap.size w.heap.size a len cap w1 (Nat.le_refl _) Hu1.out Hc1.out).mono ?_
  rintro e w2 ⟨n, d, rfl, hc2, ho2⟩
  have Hb2 := Lib.hid (Hb1.out.trans (ho2.below (Nat.le_refl _)))
  have Hc2 := Lib.hid (Hc1.out.below (ho2.below (Nat.le_refl _)))
  have Hu2 := Lib.hid hc2
  clear hc2 ho2 Hc1 Hu1 Hb1
  go_wp2_with fail
  refine (spec_FormatRat n d w2).mono ?_
  rintro e w3 ⟨rfl, hb3⟩
  have hB3 := Hb2.out.size
  have Hb3 := Lib.hid ((Hb2.out.trans (hb3.mono hB3)).alloc (Nat.le_trans hB3 hb3.size) (.cells (turns.map Value.string).toArray 9))
  have Hc3 := Lib.hid ((Hc2.out.below (hb3.mono hB3)).below ((Below.refl w.heap.size w3).alloc (Nat.le_trans hB3 hb3.size) (.cells (turns.map Value.string).toArray 9)))
  have Hu3 := Lib.hid ((Hu2.out.below hb3).alloc (.cells (turns.map Value.string).toArray 9))
  have Hl := Lib.hid (ListAt.new w3 (turns.map Value.string) 9)
  have Hp3 := Lib.hid (show w.heap.size < w3.heap.size from (Hu2.out.below hb3).lt)
  have Hlen := Lib.hid (fmt_len n d)
  rw [turns_cells] at Hu3 Hl Hb3 Hc3
  generalize (ByteArray.mk (Ra.fmt n d).toArray) = s at *
  clear hb3 hB3 Hc2 Hu2
  go_wp2_with fail
  refine (spec_l1Turned w.heap.size w.heap.size w3.heap.size a len cap 5 s Hlen.out turns (by decide) (by decide) turns_bd _ (Nat.le_refl _) (by have := Hp3.out; omega) (by rw [size1]; omega) Hl.out Hu3.out Hc3.out).mono ?_
  rintro e w4 ⟨x, rfl, hx, hb4⟩
  have Hb4 := Lib.hid (Hb3.out.trans hb4)
  clear hb4
  go_wp2_with fail
  go_ret
  exact ⟨_, rfl, hx, Hb4.out⟩
end Go.Proofs.YtheggkeoheneiaaDoor
