/- The draws of chapter 9: a game, valid or not; a text that is turned a little. -/
import Derived.Test.YtambneapofaclaaGreatDoorGmBe
import Derived.Test.YtambneapofaclaaGreatDoorGtA
namespace Go.Proofs.YtambneapofaclaaGreatDoor
open Go.RowKit
open Gm (G)
theorem cur_below {w w' : World} {p : Nat} {a : Option Addr} {len cap : Nat} (h : Cur w p a len cap) (hb : Below w.heap.size w w') : Cur w' p a len cap := by
  obtain ⟨i, x, h1, h2, hk⟩ := h
  exact ⟨i, x, h1, h2, (hb.block p (lt_of_at hk)).trans hk⟩
def DrewG (w : World) (e : Ending) (w' : World) : Prop := ∃ (g : G) (y : Value), e = .returned (.agg #[.int .i64 g.n, y]) ∧ ResGm w.heap.size w'.heap.size w' (.agg #[.int .i64 g.n, y]) g ∧ (-1 ≤ g.n ∧ g.n ≤ 6) ∧ (2 ≤ g.v.length ∧ g.v.length ≤ 33) ∧ Below w.heap.size w w'
def DrewText (B m : Nat) (w : World) (e : Ending) (w' : World) : Prop := ∃ x : ByteArray, e = .returned (.string x) ∧ x.size ≤ m ∧ Below B w w'
set_option maxHeartbeats 2000000 in
theorem spec_l1Turned2 (M K B p q : Nat) (a : Option Addr) (len cap c2 : Nat) (s : ByteArray) (hs : s.size ≤ M) (hM : M ≤ 100000) (hK : K ≤ 1000) (ss : List ByteArray) (hs1 : 1 ≤ ss.length) (hs2 : ss.length ≤ 1000000) (hss : ∀ v ∈ ss, v.size ≤ K) (w : World) (hB : B ≤ p) (hq : q ≠ p) (hql : q < w.heap.size)
    (hl : ListAt w q (ss.map Value.string)) (hcur : Cur w p a len cap) (hcode : CodeAt B w a len) :
    Calls Tryz.prog 29 #[.pointer (some ⟨p, 0, none⟩), .string s, .slice (some ⟨q, 0, none⟩) ss.length c2] w (DrewText B (M + K) w) := by
  have Hc := Lib.hid hcode
  have Hu := Lib.hid hcur
  have Hl := Lib.hid hl
  have Hss := Lib.hid hss
  obtain ⟨m, hm⟩ : ∃ m, m = ss.length := ⟨_, rfl⟩
  have Hm := Lib.hid hm
  rw [← hm]
  clear hcode hcur hl hss hm
  go_enter Tryz.func29, Tryz.ntmps29
  go_wp2_with fail
  refine (spec_l1Below B p a len cap _ (by omega) (by omega) w hB Hu.out Hc.out).mono ?_
  rintro e w1 ⟨x1, rfl, hx0, hx1, hc1, ho1⟩
  obtain ⟨j, rfl⟩ := Int.eq_ofNat_of_zero_le hx0
  have Hc1 := Lib.hid (Hc.out.below (ho1.below hB))
  have Hu1 := Lib.hid hc1
  have Ho1 := Lib.hid ho1
  clear hc1 ho1
  go_wp2_with fail
  refine (spec_l1Below B p a len cap 6 (by decide) (by decide) w1 hB Hu1.out Hc1.out).mono ?_
  rintro e w2 ⟨x2, rfl, hy0, hy1, hc2, ho2⟩
  have Hc2 := Lib.hid (Hc1.out.below (ho2.below hB))
  have Hu2 := Lib.hid hc2
  have Ho2 := Lib.hid (Ho1.out.trans ho2)
  clear hc2 ho2
  have b2 : j ≤ s.size := by omega
  have b3 : (j : Int) ≤ (s.size : Int) := by omega
  have key : (x2 = 0 ∨ x2 = 1) ∨ ((x2 == 0) = false ∧ (x2 == 1) = false) := by
    by_cases h0 : x2 = 0
    · exact .inl (.inl h0)
    · by_cases h1 : x2 = 1
      · exact .inl (.inr h1)
      · exact .inr ⟨by rw [beq_eq_false_iff_ne]; exact h0, by rw [beq_eq_false_iff_ne]; exact h1⟩
  rcases key with (rfl | rfl) | ⟨k1, k2⟩
  · have Hpick := Lib.hid (fun (W : World) (h : W = w2 ∨ W = w2.drew) => show Calls Tryz.prog 53 #[.pointer (some ⟨p, 0, none⟩), .slice (some ⟨q, 0, none⟩) m c2] W fun e w' => ∃ v : ByteArray, (e = .returned (.string v) ∧ v.size ≤ K) ∧ Below B w w' from by
      have hcu : Cur W p a len cap := by rcases h with rfl | rfl <;> exact Hu2.out
      have hco : CodeAt B W a len := by rcases h with rfl | rfl <;> exact Hc2.out
      have hli : ListAt W q (ss.map Value.string) := by rcases h with rfl | rfl; exact Hl.out.only Ho2.out hq hql; exact Hl.out.only Ho2.out.drew hq hql
      have hbe : Below B w W := by rcases h with rfl | rfl; exact Ho2.out.below hB; exact (Ho2.out.below hB).drew
      have hsz : q < W.heap.size := by have := hbe.size; rcases h with rfl | rfl <;> exact Nat.lt_of_lt_of_le hql Ho2.out.low.size
      rw [Hm.out]
      exact (spec_l1Pick B p q a len cap c2 ss hs1 hs2 W hB hq hsz hli hcu hco).mono fun e w' ⟨v, he, hv, _, ho⟩ => by
        obtain ⟨y, hy, rfl⟩ := List.mem_map.1 hv
        exact ⟨y, ⟨he, Hss.out y hy⟩, hbe.trans (ho.below hB)⟩)
    have z1 : (s.extract 0 j).size ≤ M := by simp; omega
    have z2 : (s.extract j s.size).size ≤ M := by simp <;> omega
    have z3 : (s.extract 0 j).size + (s.extract j s.size).size = s.size := by simp; omega
    clear Hc Hu Hl Hss Hm Hc1 Hu1 Ho1 Hc2 Hu2
    go_wp2_with fail
    go_region_with (go_at_call 53; refine (Hpick.out _ (by first | exact .inl rfl | exact .inr rfl)).mono ?_; rintro e w3 ⟨v, ⟨rfl, hv⟩, hb⟩; have Hb := Lib.hid hb; clear hb)
    all_goals
      go_wp2_with fail
      go_ret
      exact ⟨_, rfl, by simp [ByteArray.size_append]; omega, Hb.out⟩
  · go_wp2_with fail
    go_ret
    exact ⟨_, rfl, by simp; omega, Ho2.out.below hB⟩
  · go_wp2_with fail
    go_ret
    exact ⟨_, rfl, by omega, Ho2.out.below hB⟩
set_option maxRecDepth 100000 in
set_option maxHeartbeats 2000000 in
theorem spec_DrawFormatGame (a : Option Addr) (len cap : Nat) (w : World) (hcode : CodeAt w.heap.size w a len) :
    Calls Tryz.prog 6 #[.slice a len cap] w (DrewG w) := by
  have Hc := Lib.hid hcode
  have hz1 := CellsAt.new w #[.int .i64 0, .slice none 0 0] 26
  have hb0 := (Below.refl w.heap.size w).alloc (Nat.le_refl _) (.cells #[.int .i64 0, .slice none 0 0] 26)
  have hs0 := size1 w (.cells #[.int .i64 0, .slice none 0 0] 26)
  have HZ1 := Lib.hid hz1
  have HB0 := Lib.hid hb0
  have Hs0 := Lib.hid hs0
  clear hz1 hb0 hs0 hcode
  go_enter Tryz.func6, Tryz.ntmps6
  go_wp2_with fail
  refine (spec_l1New w.heap.size a len cap _ (Hc.out.below HB0.out)).mono ?_
  rintro e w1 ⟨rfl, hc1, hb1, hsz1⟩
  rw [Hs0.out] at hc1 hb1 hsz1 ⊢
  obtain ⟨p, hp⟩ : ∃ p, w.heap.size + 1 = p := ⟨_, rfl⟩
  have HY1 := Lib.hid (show CellsAt w1 w.heap.size #[.int .i64 0, .slice none 0 0] 26 from (hb1.block _ (by omega)).trans HZ1.out)
  have HB1 := Lib.hid (HB0.out.trans (hb1.mono (by omega)))
  rw [hp] at hc1 hsz1 ⊢
  have HU1 := Lib.hid hc1
  have hBp : w.heap.size ≤ p := by omega
  have hp2 : w.heap.size + 1 ≤ p := by omega
  clear hc1 hb1 HZ1 HB0 Hs0 hp hsz1
  go_wp2_with fail
  refine (spec_l8Bent w.heap.size p a len cap w1 hBp HU1.out (Hc.out.below HB1.out)).mono ?_
  rintro e w2 ⟨g, v, rfl, hx2, hn1, hn2, hl2, hc2, ho2⟩
  have HB2 := Lib.hid (HB1.out.trans (ho2.below hBp))
  have HY2 := Lib.hid (HY1.out.only ho2 (by omega))
  obtain ⟨a9, c9, rfl⟩ := ints_shape hx2
  have hx3 := hx2.raise2 (show w.heap.size ≤ w1.heap.size from HB1.out.size)
  have hne2 : (Value.slice a9 g.v.length c9).ownBlock ≠ some w.heap.size := own_away hx3 HY2.out.ty (by decide)
  have HX := Lib.hid (owns_set (i := 1) (u := .slice a9 g.v.length c9) (owns_set (i := 0) (u := .int .i64 g.n) hx3 hne2) hne2)
  have HR := Lib.hid ((HY2.out.s0 (.int .i64 g.n)).s1 (.slice a9 g.v.length c9))
  have HBz := Lib.hid ((HB2.out.setCell (p := ⟨w.heap.size, 0, none⟩) (by simp only; omega) (.int .i64 g.n)).setCell (p := ⟨w.heap.size, 1, none⟩) (by simp only; omega) (.slice a9 g.v.length c9))
  obtain ⟨d0, d1, e0, e1⟩ := two' HY2.out
  clear hx2 hx3 hc2 ho2 HB1 HY1 HU1 hne2
  go_wp2_with fail
  refine bodyPost_ret (v := .agg #[.int .i64 g.n, .slice a9 g.v.length c9]) (by
    obtain ⟨z0, z1⟩ := two HR.out
    revert z0 z1
    generalize ((w2.setCell ⟨w.heap.size, 0, none⟩ (.int .i64 g.n)).setCell ⟨w.heap.size, 1, none⟩ (.slice a9 g.v.length c9)) = W4
    intro z0 z1
    simp [results, Tryz.results6, go_sem, z0, z1]) rfl ⟨g, _, rfl, ResGm.of_own HX.out, ⟨hn1, hn2⟩, hl2, HBz.out⟩
def gturns : List ByteArray := [⟨#[32]⟩, ⟨#[10]⟩, ⟨#[97]⟩, ⟨#[98, 32, 49, 10]⟩, ⟨#[48]⟩, ⟨#[45]⟩, ⟨#[112, 108, 97, 121, 101, 114, 115, 32, 50, 10]⟩]
theorem gturns_bd : ∀ v ∈ gturns, v.size ≤ 10 := by unfold gturns; decide
theorem gturns_cells : (gturns.map Value.string).toArray = #[.string ⟨#[32]⟩, .string ⟨#[10]⟩, .string ⟨#[97]⟩, .string ⟨#[98, 32, 49, 10]⟩, .string ⟨#[48]⟩, .string ⟨#[45]⟩, .string ⟨#[112, 108, 97, 121, 101, 114, 115, 32, 50, 10]⟩] := rfl
theorem gtext_size (g : G) : (Gt.text g).size ≤ 670 := by
  rcases h : Gm.vld g with _ | _
  · rw [Gt.text_no h]; decide
  · rw [Gt.text_yes h]
    have h1 := Gt.body_size h g.v.length (Nat.le_refl _)
    have h2 := Gm.vld_len h
    omega
set_option maxRecDepth 100000 in
set_option maxHeartbeats 2000000 in
theorem spec_DrawParseGame (a : Option Addr) (len cap : Nat) (w : World) (hcode : CodeAt w.heap.size w a len) :
    Calls Tryz.prog 12 #[.slice a len cap] w (DrewText w.heap.size 680 w) := by
  have Hc := Lib.hid hcode
  clear hcode
  go_enter Tryz.func12, Tryz.ntmps12
  go_wp2_with fail
  refine (spec_l1New w.heap.size a len cap w Hc.out).mono ?_
  rintro e w1 ⟨rfl, hc1, hb1, hsz⟩
  have Hc1 := Lib.hid (Hc.out.below hb1)
  have Hu1 := Lib.hid hc1
  have Hb1 := Lib.hid hb1
  clear hc1 hb1 hsz
  go_wp2_with fail
  refine (spec_l8Draw w.heap.size w.heap.size a len cap 4 (by decide) (by decide) w1 (Nat.le_refl _) Hu1.out Hc1.out).mono ?_
  rintro e w2 ⟨g, v, rfl, hx2, hn1, hn2, hl2, hc2, ho2⟩
  have Hb2 := Lib.hid (Hb1.out.trans (ho2.below (Nat.le_refl _)))
  have Hc2 := Lib.hid (Hc1.out.below (ho2.below (Nat.le_refl _)))
  have Hu2 := Lib.hid hc2
  obtain ⟨a9, c9, rfl⟩ := ints_shape hx2
  have hlen : g.v.length ≤ 32 := by rw [hl2]; exact (Gm.pow_bd ⟨hn1, hn2⟩).2
  have HF := Lib.hid (spec_FormatGame (GmC.of_own hx2) ⟨by omega, WalkArith.wf_i64 (by omega)⟩)
  have Hlen := Lib.hid (gtext_size g)
  clear hc2 ho2 Hc1 Hu1 Hb1 hx2 hl2
  generalize Gt.text g = s at *
  go_wp2_with fail
  refine HF.out.mono ?_
  rintro e w3 ⟨rfl, hb3⟩
  have hB3 := Hb2.out.size
  have Hb3 := Lib.hid ((Hb2.out.trans (hb3.mono hB3)).alloc (Nat.le_trans hB3 hb3.size) (.cells (gturns.map Value.string).toArray 9))
  have Hc3 := Lib.hid ((Hc2.out.below (hb3.mono hB3)).below ((Below.refl w.heap.size w3).alloc (Nat.le_trans hB3 hb3.size) (.cells (gturns.map Value.string).toArray 9)))
  have Hu3 := Lib.hid ((cur_below Hu2.out hb3).alloc (.cells (gturns.map Value.string).toArray 9))
  have Hl := Lib.hid (ListAt.new w3 (gturns.map Value.string) 9)
  have Hp3 := Lib.hid (show w.heap.size < w3.heap.size from (cur_below Hu2.out hb3).lt)
  rw [gturns_cells] at Hu3 Hl Hb3 Hc3
  clear hb3 hB3 Hc2 Hu2 HF
  go_wp2_with fail
  refine (spec_l1Turned2 670 10 w.heap.size w.heap.size w3.heap.size a len cap 7 s Hlen.out (by decide) (by decide) gturns (by decide) (by decide) gturns_bd _ (Nat.le_refl _) (by have := Hp3.out; omega) (by rw [size1]; omega) Hl.out Hu3.out Hc3.out).mono ?_
  rintro e w4 ⟨x, rfl, hx, hb4⟩
  have Hb4 := Lib.hid (Hb3.out.trans hb4)
  clear hb4
  go_wp2_with fail
  go_ret
  exact ⟨_, rfl, hx, Hb4.out⟩
end Go.Proofs.YtambneapofaclaaGreatDoor
