/- The specification's l9First, l9Line: a line read. -/
import Derived.Test.YtambneapofaclaaGreatDoorGtN
import Derived.Test.YtambneapofaclaaGreatDoorGmC
import Derived.Test.YtambneapofaclaaGreatDoorSpSplit
import Derived.Test.YtambneapofaclaaGreatDoorSpRead
import Derived.Test.YtambneapofaclaaGreatDoorCoParse
namespace Go.Proofs.YtambneapofaclaaGreatDoor
open Go.RowKit
open Gm (G G0)
def firstG : Option Int → G
  | some n => ⟨n, Gt.zeros n⟩
  | none => G0
/-- Strings of the call's own that are read. -/
theorem gt_strs {B : Nat} {w : World} {v : Value} {ss : List ByteArray} (h : OwnStrs B w v ss) (hne : ss ≠ []) :
    ∃ g cap, v = .slice (some ⟨g, 0, none⟩) ss.length cap ∧ ss.length ≤ cap ∧ B ≤ g ∧ g < w.heap.size ∧ ∀ j x, ss[j]? = some x → w.cell? ⟨g, j, none⟩ = some (.string x) := by
  have h' := h
  obtain ⟨h1, ⟨hv, hn⟩ | ⟨g, cap, cur, rfl, hg, hh, hc, hr⟩⟩ := h'
  · exact absurd (List.eq_nil_of_length_eq_zero hn) hne
  · refine ⟨g, cap, rfl, hc, hg, lt_of_at hh, fun j x hx => ?_⟩
    have hj : j < ss.length := (List.getElem?_eq_some_iff.1 hx).1
    rw [World.ownsRow.cellAt h j (by omega), List.getElem?_map, hx]
    rfl
theorem parts_ne (b : UInt8) (l : List UInt8) : Cut.parts b l ≠ [] := by
  have h := (Cut.cut_length b l []).1
  intro e
  have : (Cut.parts b l).length = (Cut.cut b [] l).length := by simp [Cut.parts]
  rw [e] at this
  simp at this
  omega
theorem part_size {b : UInt8} {l p : ByteArray} (h : p ∈ Cut.parts b l.data.toList) : p.size ≤ l.size := by
  unfold Cut.parts at h
  obtain ⟨q, hq, rfl⟩ := List.mem_map.1 h
  have := Cut.part_le hq
  show q.toArray.size ≤ l.size
  rw [Lib.size_eq]
  simpa using this
theorem gt_made (n : Nat) : (madeCells #[Value.int .i64 0] n).toList = (List.replicate n (0 : Int)).map (Value.int .i64) := by
  apply List.ext_getElem
  · simp [madeCells]
  · intro i h1 h2
    simp [madeCells, Nat.mod_one]
set_option maxRecDepth 100000 in
set_option maxHeartbeats 4000000 in
theorem spec_l9First (l : ByteArray) (hl : l.size ≤ 1048576) (w : World) : Calls Tryz.prog 32 #[.string l] w (MakesGm (firstG (Gt.rdFirst l), (Gt.rdFirst l).isSome) w) := by
  obtain ⟨W, hW⟩ : ∃ W, W = w.alloc (.cells #[.int .i64 0, .slice none 0 0] 26) := ⟨_, rfl⟩
  have HC := Lib.hid (show CellsAt W w.heap.size #[.int .i64 0, .slice none 0 0] 26 from by rw [hW]; exact CellsAt.new _ _ _)
  have HB := Lib.hid (show Below w.heap.size w W from by rw [hW]; exact (Below.refl _ _).alloc (Nat.le_refl _) _)
  have HS := Lib.hid (show Calls Tryz.prog 31 #[.string l, .int .u8 32] W (SplitPost 32 l W) from spec_SplitByte l 32 hl W)
  have HW := Lib.hid hW
  have hne := parts_ne 32 l.data.toList
  have hps := fun p (h : p ∈ Cut.parts 32 l.data.toList) => part_size h
  have hF := Gt.firstS l
  unfold SplitPost at HS
  obtain ⟨ps, hpp⟩ : ∃ ps, Cut.parts 32 l.data.toList = ps := ⟨_, rfl⟩
  have hww : Gt.wordsOf l = ps := hpp
  rw [hpp] at HS hne hps
  generalize Gt.rdFirst l = r at *
  have HNe := Lib.hid hne
  clear hW hne hpp
  rcases hF with ⟨h⟩ | ⟨a, b, h, h2⟩ | ⟨b, h, h2⟩ | ⟨b, n, h, h2, h3, h4⟩ | ⟨b, n, h, h2, h3⟩
  · rw [hww] at h
    have hq : ((ps.length : Int) != 2) = true := by simpa using h
    clear h hww hps
    go_enter Tryz.func32, Tryz.ntmps32
    go_wp2_with fail
    rw [← HW.out]
    refine HS.out.mono ?_
    rintro e w1 ⟨v, rfl, ho, k⟩
    obtain ⟨g, cap, hvv, hcap, hg0, hg1, hcs⟩ := gt_strs ho HNe.out
    have HB1 := Lib.hid (HB.out.trans (k.mono HB.out.size))
    have HC1 := Lib.hid (HC.out.below k)
    subst hvv
    clear k ho hcap HS HW HC HB HNe hg0 hg1 hcs
    have HR := Lib.hid ((HC1.out.s0 (.int .i64 0)).s1 (.slice none 0 0))
    have HBz := Lib.hid ((HB1.out.setCell (p := ⟨w.heap.size, 0, none⟩) (by simp only; omega) (.int .i64 0)).setCell (p := ⟨w.heap.size, 1, none⟩) (by simp only; omega) (.slice none 0 0))
    obtain ⟨d0, d1, e0, e1⟩ := two' HC1.out
    go_wp2_with fail
    refine bodyPost_ret (v := .tuple #[.agg #[.int .i64 0, .slice none 0 0], .bool false]) (by
      obtain ⟨z0, z1⟩ := two HR.out
      revert z0 z1
      generalize ((w1.setCell ⟨w.heap.size, 0, none⟩ (.int .i64 0)).setCell ⟨w.heap.size, 1, none⟩ (.slice none 0 0)) = W4
      intro z0 z1
      simp [results, Tryz.results32, go_sem, z0, z1]) rfl ⟨⟨_, _, rfl, ResGm.zero _ _⟩, HBz.out⟩
  · obtain rfl : ps = [a, b] := hww.symm.trans h
    have hn1 : (a.toList == (⟨#[112, 108, 97, 121, 101, 114, 115]⟩ : ByteArray).toList) = false := str_ne h2
    have hn2 : (a.toList == [112, 108, 97, 121, 101, 114, 115]) = false := by rw [ByteArray.toList_eq] at hn1; rw [ByteArray.toList_eq, ← hn1, ByteArray.toList_eq]
    clear h hww hps h2
    go_enter Tryz.func32, Tryz.ntmps32
    go_wp2_with fail
    rw [← HW.out]
    refine HS.out.mono ?_
    rintro e w1 ⟨v, rfl, ho, k⟩
    obtain ⟨g, cap, hvv, hcap, hg0, hg1, hcs⟩ := gt_strs ho HNe.out
    have HB1 := Lib.hid (HB.out.trans (k.mono HB.out.size))
    have HC1 := Lib.hid (HC.out.below k)
    have hc0 := hcs 0 a rfl
    have hc1 := hcs 1 b rfl
    obtain rfl : v = .slice (some ⟨g, 0, none⟩) 2 cap := hvv
    replace hcap : 2 ≤ cap := hcap
    clear k ho HS HW HC HB HNe hg0 hcs
    have HR := Lib.hid ((HC1.out.s0 (.int .i64 0)).s1 (.slice none 0 0))
    have HBz := Lib.hid ((HB1.out.setCell (p := ⟨w.heap.size, 0, none⟩) (by simp only; omega) (.int .i64 0)).setCell (p := ⟨w.heap.size, 1, none⟩) (by simp only; omega) (.slice none 0 0))
    obtain ⟨d0, d1, e0, e1⟩ := two' HC1.out
    go_wp2_with fail
    refine bodyPost_ret (v := .tuple #[.agg #[.int .i64 0, .slice none 0 0], .bool false]) (by
      obtain ⟨z0, z1⟩ := two HR.out
      revert z0 z1
      generalize ((w1.setCell ⟨w.heap.size, 0, none⟩ (.int .i64 0)).setCell ⟨w.heap.size, 1, none⟩ (.slice none 0 0)) = W4
      intro z0 z1
      simp [results, Tryz.results32, go_sem, z0, z1]) rfl ⟨⟨_, _, rfl, ResGm.zero _ _⟩, HBz.out⟩
  · obtain rfl : ps = [Gt.pl, b] := hww.symm.trans h
    have hbs : b.size ≤ 281474976710656 := by have := hps b (by simp); omega
    have HP := Lib.hid (fun w => spec_ParseNumber_bad b h2 hbs w)
    clear h hww hps h2 hbs
    go_enter Tryz.func32, Tryz.ntmps32
    go_wp2_with fail
    rw [← HW.out]
    refine HS.out.mono ?_
    rintro e w1 ⟨v, rfl, ho, k⟩
    obtain ⟨g, cap, hvv, hcap, hg0, hg1, hcs⟩ := gt_strs ho HNe.out
    have HB1 := Lib.hid (HB.out.trans (k.mono HB.out.size))
    have HC1 := Lib.hid (HC.out.below k)
    have hc0 := hcs 0 Gt.pl rfl
    have hc1 := hcs 1 b rfl
    obtain rfl : v = .slice (some ⟨g, 0, none⟩) 2 cap := hvv
    replace hcap : 2 ≤ cap := hcap
    have hq1 : (Gt.pl.toList == (⟨#[112, 108, 97, 121, 101, 114, 115]⟩ : ByteArray).toList) = true := by decide +kernel
    have hq2 : (Gt.pl.toList == [112, 108, 97, 121, 101, 114, 115]) = true := by decide +kernel
    clear k ho HS HW HC HB HNe hg0 hcs
    generalize Gt.pl = p at *
    go_wp2_with fail
    refine (HP.out _).mono ?_
    rintro e w2 ⟨rfl, k⟩
    have HB2 := Lib.hid (HB1.out.trans (k.mono HB1.out.size))
    have HC2 := Lib.hid (HC1.out.below k)
    clear k hc0 hc1 hq1 hq2 HB1 HC1 HP
    have HR := Lib.hid ((HC2.out.s0 (.int .i64 0)).s1 (.slice none 0 0))
    have HBz := Lib.hid ((HB2.out.setCell (p := ⟨w.heap.size, 0, none⟩) (by simp only; omega) (.int .i64 0)).setCell (p := ⟨w.heap.size, 1, none⟩) (by simp only; omega) (.slice none 0 0))
    obtain ⟨d0, d1, e0, e1⟩ := two' HC2.out
    go_wp2_with fail
    refine bodyPost_ret (v := .tuple #[.agg #[.int .i64 0, .slice none 0 0], .bool false]) (by
      obtain ⟨z0, z1⟩ := two HR.out
      revert z0 z1
      generalize ((w2.setCell ⟨w.heap.size, 0, none⟩ (.int .i64 0)).setCell ⟨w.heap.size, 1, none⟩ (.slice none 0 0)) = W4
      intro z0 z1
      simp [results, Tryz.results32, go_sem, z0, z1]) rfl ⟨⟨_, _, rfl, ResGm.zero _ _⟩, HBz.out⟩
  · obtain rfl : ps = [Gt.pl, b] := hww.symm.trans h
    have hbs : b.size ≤ 281474976710656 := by have := hps b (by simp); omega
    have HP := Lib.hid (fun w => spec_ParseNumber_ok b n h2 (by omega) (by omega) hbs w)
    have Hd := Lib.hid (show decide (1 ≤ n ∧ n ≤ 5) = false by rw [decide_eq_false_iff_not]; exact h4)
    clear h3 h4
    clear h hww hps h2 hbs
    go_enter Tryz.func32, Tryz.ntmps32
    go_wp2_with fail
    rw [← HW.out]
    refine HS.out.mono ?_
    rintro e w1 ⟨v, rfl, ho, k⟩
    obtain ⟨g, cap, hvv, hcap, hg0, hg1, hcs⟩ := gt_strs ho HNe.out
    have HB1 := Lib.hid (HB.out.trans (k.mono HB.out.size))
    have HC1 := Lib.hid (HC.out.below k)
    have hc0 := hcs 0 Gt.pl rfl
    have hc1 := hcs 1 b rfl
    obtain rfl : v = .slice (some ⟨g, 0, none⟩) 2 cap := hvv
    replace hcap : 2 ≤ cap := hcap
    have hq1 : (Gt.pl.toList == (⟨#[112, 108, 97, 121, 101, 114, 115]⟩ : ByteArray).toList) = true := by decide +kernel
    have hq2 : (Gt.pl.toList == [112, 108, 97, 121, 101, 114, 115]) = true := by decide +kernel
    clear k ho HS HW HC HB HNe hg0 hcs
    generalize Gt.pl = p at *
    go_wp2_with fail
    refine (HP.out _).mono ?_
    rintro e w2 ⟨rfl, k⟩
    have HB2 := Lib.hid (HB1.out.trans (k.mono HB1.out.size))
    have HC2 := Lib.hid (HC1.out.below k)
    clear k hc0 hc1 hq1 hq2 HB1 HC1 HP
    go_wp2_with fail
    refine (spec_l1In n 1 5 false Hd.out _).mono ?_
    rintro e w3 ⟨rfl, rfl⟩
    have HR := Lib.hid ((HC2.out.s0 (.int .i64 0)).s1 (.slice none 0 0))
    have HBz := Lib.hid ((HB2.out.setCell (p := ⟨w.heap.size, 0, none⟩) (by simp only; omega) (.int .i64 0)).setCell (p := ⟨w.heap.size, 1, none⟩) (by simp only; omega) (.slice none 0 0))
    obtain ⟨d0, d1, e0, e1⟩ := two' HC2.out
    go_wp2_with fail
    refine bodyPost_ret (v := .tuple #[.agg #[.int .i64 0, .slice none 0 0], .bool false]) (by
      obtain ⟨z0, z1⟩ := two HR.out
      revert z0 z1
      generalize ((w2.setCell ⟨w.heap.size, 0, none⟩ (.int .i64 0)).setCell ⟨w.heap.size, 1, none⟩ (.slice none 0 0)) = W4
      intro z0 z1
      simp [results, Tryz.results32, go_sem, z0, z1]) rfl ⟨⟨_, _, rfl, ResGm.zero _ _⟩, HBz.out⟩
  · obtain rfl : ps = [Gt.pl, b] := hww.symm.trans h
    have hbs : b.size ≤ 281474976710656 := by have := hps b (by simp); omega
    have HP := Lib.hid (fun w => spec_ParseNumber_ok b n h2 (by omega) (by omega) hbs w)
    obtain ⟨m, rfl⟩ : ∃ m : Nat, n = m := ⟨n.toNat, by omega⟩
    have hm5 : m ≤ 5 := by omega
    have hm1 : 1 ≤ m := by omega
    have Hz : Hid (firstG (some (m : Int)) = ⟨(m : Int), List.replicate (2 ^ m) 0⟩) := rfl
    have hp1 : 1 ≤ 2 ^ m := Nat.one_le_two_pow
    have hp32 : 2 ^ m ≤ 32 := Nat.pow_le_pow_right (by omega) hm5
    have HCC := Lib.hid (fun w => spec_CountCoalitions m hm5 w)
    have Hd := Lib.hid (show decide (1 ≤ (m : Int) ∧ (m : Int) ≤ 5) = true by rw [decide_eq_true_iff]; omega)
    obtain ⟨i0, hi, hz0, hz1, hz2⟩ := info_parts info_int
    have HI := Lib.hid hi
    have HZ0 := Lib.hid hz0
    have HZ1 := Lib.hid hz1
    generalize 2 ^ m = N at *
    have Hby : Hid (i0.bytes * N ≤ 281474976710656) := by show _ ≤ _; rw [hz2]; omega
    clear hi hz0 hz1 hz2 h3
    clear h hww hps h2 hbs
    go_enter Tryz.func32, Tryz.ntmps32
    go_wp2_with fail
    rw [← HW.out]
    refine HS.out.mono ?_
    rintro e w1 ⟨v, rfl, ho, k⟩
    obtain ⟨g, cap, hvv, hcap, hg0, hg1, hcs⟩ := gt_strs ho HNe.out
    have HB1 := Lib.hid (HB.out.trans (k.mono HB.out.size))
    have HC1 := Lib.hid (HC.out.below k)
    have hc0 := hcs 0 Gt.pl rfl
    have hc1 := hcs 1 b rfl
    obtain rfl : v = .slice (some ⟨g, 0, none⟩) 2 cap := hvv
    replace hcap : 2 ≤ cap := hcap
    have hq1 : (Gt.pl.toList == (⟨#[112, 108, 97, 121, 101, 114, 115]⟩ : ByteArray).toList) = true := by decide +kernel
    have hq2 : (Gt.pl.toList == [112, 108, 97, 121, 101, 114, 115]) = true := by decide +kernel
    clear k ho HS HW HC HB HNe hg0 hcs
    generalize Gt.pl = p at *
    go_wp2_with fail
    refine (HP.out _).mono ?_
    rintro e w2 ⟨rfl, k⟩
    have HB2 := Lib.hid (HB1.out.trans (k.mono HB1.out.size))
    have HC2 := Lib.hid (HC1.out.below k)
    clear k hc0 hc1 hq1 hq2 HB1 HC1 HP
    go_wp2_with fail
    refine (spec_l1In m 1 5 true Hd.out _).mono ?_
    rintro e w3 ⟨rfl, rfl⟩
    go_wp2_with fail
    refine (HCC.out _).mono ?_
    rintro e w3 ⟨rfl, rfl⟩
    have hsz2 := HB2.out.size
    go_wp2_with (refine wpList_make_full _ rfl _ _ 24 rfl w.heap.size 3 i0 (.int .i64 0) 1 Tryz.underlying24 HI.out HZ0.out HZ1.out _ _ _ _ N rfl rfl rfl rfl Hby.out ?c1 (by omega) ?_)
    case c1 => unfold maxLen; omega
    intro w4 hown hgrow
    rw [gt_made] at hown
    have hown1 : OwnInts w.heap.size w4 (.slice (some ⟨w2.heap.size, 0, none⟩) N N) (List.replicate N 0) := by unfold OwnInts; rw [List.length_replicate]; exact hown
    have HB4 := Lib.hid (HB2.out.grown hgrow hsz2 (fun g hg => by cases hg))
    have HC4 := Lib.hid (HC2.out.below ((Below.refl w2.heap.size w2).grown hgrow (Nat.le_refl _) (fun g hg => by cases hg)))
    have hne2 : (Value.slice (some ⟨w2.heap.size, 0, none⟩) N N).ownBlock ≠ some w.heap.size := own_away hown1 HC4.out.ty (by decide)
    have HY := Lib.hid (owns_set (i := 1) (u := .slice (some ⟨w2.heap.size, 0, none⟩) N N) (owns_set (i := 0) (u := .int .i64 m) hown1 hne2) hne2)
    clear hown hgrow hown1 hne2 HB2 HC2 hsz2 HCC Hd
    generalize w2.heap.size = b2 at *
    have HR := Lib.hid ((HC4.out.s0 (.int .i64 m)).s1 (.slice (some ⟨b2, 0, none⟩) N N))
    have HBz := Lib.hid ((HB4.out.setCell (p := ⟨w.heap.size, 0, none⟩) (by simp only; omega) (.int .i64 m)).setCell (p := ⟨w.heap.size, 1, none⟩) (by simp only; omega) (.slice (some ⟨b2, 0, none⟩) N N))
    obtain ⟨d0, d1, e0, e1⟩ := two' HC4.out
    go_wp2_with fail
    refine bodyPost_ret (v := .tuple #[.agg #[.int .i64 m, .slice (some ⟨b2, 0, none⟩) N N], .bool true]) (by
      obtain ⟨z0, z1⟩ := two HR.out
      revert z0 z1
      generalize ((w4.setCell ⟨w.heap.size, 0, none⟩ (.int .i64 m)).setCell ⟨w.heap.size, 1, none⟩ (.slice (some ⟨b2, 0, none⟩) N N)) = W4
      intro z0 z1
      simp [results, Tryz.results32, go_sem, z0, z1]) rfl ⟨⟨_, _, rfl, by rw [Hz.out]; exact ResGm.of_own' rfl HY.out⟩, HBz.out⟩
/-- What a reader of a line answers: where the line fits, its coalition and its value. -/
def LinePost (r : Option (Nat × Int)) (ok : Bool) (w : World) (e : Ending) (w' : World) : Prop :=
  ∃ (s v : Int), e = .returned (.tuple #[.int .i64 s, .int .i64 v, .bool ok]) ∧ (ok = true → r = some (s.toNat, v) ∧ 0 ≤ s) ∧ Below w.heap.size w w'
theorem fits_false {a m : Nat} {r : Option (Nat × Int)} (h : r = none) : false = Gt.fits a m r := by rw [h]; rfl
theorem fits_if {a m n : Nat} {c : Prop} [Decidable c] {v : Int} (h : ¬ (a < n ∧ n < m) ∨ ¬ c) : false = Gt.fits a m (if c then some (n, v) else none) := by
  by_cases hc : c
  · rw [if_pos hc]
    rcases h with h | h
    · exact (decide_eq_false h).symm
    · exact absurd hc h
  · rw [if_neg hc]; rfl
theorem fits_yes {a m n : Nat} {c : Prop} [Decidable c] {v : Int} (h1 : a < n) (h2 : n < m) (bb : Bool) (h : decide c = bb) : bb = Gt.fits a m (if c then some (n, v) else none) := by
  subst h
  by_cases hc : c
  · rw [if_pos hc, decide_eq_true hc]; exact (decide_eq_true (show a < n ∧ n < m from ⟨h1, h2⟩)).symm
  · rw [if_neg hc, decide_eq_false hc]; rfl
/-- What ParseInt answers, whatever it is. -/
theorem spec_int (b : ByteArray) (hb : b.size ≤ 281474976710656) : ∃ (v : Int) (two : Bool), ((two = true ∧ Lib.itoa v = b.data.toList ∧ -999999999999 ≤ v ∧ v ≤ 999999999999) ∨ (two = false ∧ ∀ n : Int, -999999999999 ≤ n → n ≤ 999999999999 → Lib.itoa n ≠ b.data.toList)) ∧
    ∀ w, Calls Tryz.prog 59 #[.string b] w fun e w' => e = .returned (.tuple #[.int .i64 v, .bool two]) ∧ Below w.heap.size w w' := by
  by_cases h : ∃ n : Int, -999999999999 ≤ n ∧ n ≤ 999999999999 ∧ Lib.itoa n = b.data.toList
  · obtain ⟨n, h0, h1, h2⟩ := h
    exact ⟨n, true, .inl ⟨rfl, h2, h0, h1⟩, fun w => spec_ParseInt_ok b n h2 h0 h1 hb w⟩
  · have h3 : ∀ n : Int, -999999999999 ≤ n → n ≤ 999999999999 → Lib.itoa n ≠ b.data.toList := fun n h0 h1 h2 => h ⟨n, h0, h1, h2⟩
    exact ⟨0, false, .inr ⟨rfl, h3⟩, fun w => spec_ParseInt_bad b h3 hb w⟩
set_option maxRecDepth 100000 in
set_option maxHeartbeats 8000000 in
theorem spec_l9Line {w : World} {x y : Value} {g0 : G} (h : GmC w x y g0) (hf : GmOk g0) (l : ByteArray) (hl : l.size ≤ 1048576) (a0 : Nat) :
    Calls Tryz.prog 33 #[.agg #[x, y], .string l, .int .i64 a0] w (LinePost (Gt.rdLine l) (Gt.fits a0 g0.v.length (Gt.rdLine l)) w) := by
  obtain ⟨ga, gc, rfl, rfl, hi⟩ := h
  have hlen := hf.1
  obtain ⟨W, hW⟩ : ∃ W, W = w.alloc (.cells #[.int .i64 g0.n, .slice ga g0.v.length gc] 26) := ⟨_, rfl⟩
  have HC := Lib.hid (show CellsAt W w.heap.size #[.int .i64 g0.n, .slice ga g0.v.length gc] 26 from by rw [hW]; exact CellsAt.new _ _ _)
  have HB := Lib.hid (show Below w.heap.size w W from by rw [hW]; exact (Below.refl _ _).alloc (Nat.le_refl _) _)
  have HS := Lib.hid (show Calls Tryz.prog 31 #[.string l, .int .u8 32] W (SplitPost 32 l W) from spec_SplitByte l 32 hl W)
  have HW := Lib.hid hW
  have hne := parts_ne 32 l.data.toList
  have hps := fun p (h : p ∈ Cut.parts 32 l.data.toList) => part_size h
  unfold SplitPost at HS
  obtain ⟨ps, hpp⟩ : ∃ ps, Cut.parts 32 l.data.toList = ps := ⟨_, rfl⟩
  have hww : Gt.wordsOf l = ps := hpp
  rw [hpp] at HS hne hps
  have HNe := Lib.hid hne
  generalize g0.v.length = m at *
  clear hW hne hpp hi hf
  by_cases hlen2 : ((Gt.wordsOf l).length : Int) ≠ 2
  · have HE := Lib.hid (fits_false (a := a0) (m := m) (Gt.line_len hlen2))
    rw [hww] at hlen2
    have hq : ((ps.length : Int) != 2) = true := by simpa using hlen2
    generalize Gt.fits a0 m (Gt.rdLine l) = ok at *
    clear hlen2 hww hps
    go_enter Tryz.func33, Tryz.ntmps33
    go_wp2_with fail
    rw [← HW.out]
    refine HS.out.mono ?_
    rintro e w1 ⟨v, rfl, ho, k⟩
    obtain ⟨g, cap, hvv, hcap, hg0, hg1, hcs⟩ := gt_strs ho HNe.out
    have HB1 := Lib.hid (HB.out.trans (k.mono HB.out.size))
    have HC1 := Lib.hid (HC.out.below k)
    subst hvv
    clear k ho hcap HS HW HC HB HNe hg0 hg1 hcs HC1
    go_wp2_with fail
    go_ret3
    exact ⟨0, 0, by have h9 := HE.out; subst h9; rfl, (fun h => by rw [← HE.out] at h; cases h), HB1.out⟩
  · obtain ⟨a, b, hab⟩ : ∃ a b, ps = [a, b] := by
      rw [hww] at hlen2
      rcases ps with _ | ⟨a, _ | ⟨b, _ | ⟨c, r⟩⟩⟩
      · exact absurd (by decide) hlen2
      · exact absurd (by simp) hlen2
      · exact ⟨a, b, rfl⟩
      · exact absurd (by simp; omega) hlen2
    subst hab
    have hbs : b.size ≤ 281474976710656 := by have := hps b (by simp); omega
    obtain ⟨v, tw, hv, hPi⟩ := spec_int b hbs
    obtain ⟨r1, hr1⟩ := parse_some a
    have HPi := Lib.hid hPi
    have HPc := Lib.hid (fun w => spec_ParseCoalition a r1 hr1 w)
    clear hPi hlen2 hps hbs
    rcases hr1 with ⟨n, hn, rfl⟩ | ⟨hn, rfl⟩
    · have hn32 := hn.1
      rcases hv with ⟨rfl, hv1, hv2, hv3⟩ | ⟨rfl, hv1⟩
      · have hL := Gt.line_both (hww : Gt.wordsOf l = [a, b]) hn32 hn.2.1 hv1
        rw [hL]
        clear hL hv1 hww hn
        by_cases h1 : a0 < n
        · have q1 : decide (a0 < n) = true := decide_eq_true h1
          have q1i : decide ((a0 : Int) < (n : Int)) = true := by rw [decide_eq_true_iff]; omega
          by_cases h2 : n < m
          · have q2 : decide (n < m) = true := decide_eq_true h2
            have q2i : decide ((n : Int) < (m : Int)) = true := by rw [decide_eq_true_iff]; omega
            rcases h3 : (v != 0) with _ | _
            · have HE := Lib.hid (fits_if (a := a0) (m := m) (n := n) (v := v) (c := v ≠ 0 ∧ -500 ≤ v ∧ v ≤ 500) (.inr (fun h => h.1 (by simpa using h3))))
              generalize (if v ≠ 0 ∧ -500 ≤ v ∧ v ≤ 500 then some (n, v) else none) = rr at *; generalize Gt.fits a0 m rr = ok at *
              go_enter Tryz.func33, Tryz.ntmps33
              go_wp2_with fail
              rw [← HW.out]
              refine HS.out.mono ?_
              rintro e w1 ⟨v, rfl, ho, k⟩
              obtain ⟨g, cap, hvv, hcap, hg0, hg1, hcs⟩ := gt_strs ho HNe.out
              have HB1 := Lib.hid (HB.out.trans (k.mono HB.out.size))
              have HC1 := Lib.hid (HC.out.below k)
              have hc0 := hcs 0 a rfl
              have hc1 := hcs 1 b rfl
              obtain rfl : v = .slice (some ⟨g, 0, none⟩) 2 cap := hvv
              replace hcap : 2 ≤ cap := hcap
              clear k ho HS HW HC HB HNe hg0 hcs
              go_wp2_with fail
              refine (HPc.out _).mono ?_
              rintro e w2 ⟨rfl, k⟩
              have HB2 := Lib.hid (HB1.out.trans (k.mono HB1.out.size))
              have HC2 := Lib.hid (HC1.out.below k)
              have hc1 := cell_after k hg1 hc1
              clear k hc0 HB1 HC1 HPc
              go_wp2_with fail
              refine (HPi.out _).mono ?_
              rintro e w3 ⟨rfl, k⟩
              have HB3 := Lib.hid (HB2.out.trans (k.mono HB2.out.size))
              have HC3 := Lib.hid (HC2.out.below k)
              obtain ⟨d0, d1⟩ := two HC3.out
              clear k hc1 HB2 HC2 HPi
              go_wp2_with fail
              go_ret3
              exact ⟨n, v, by have h9 := HE.out; subst h9; rfl, (fun h => by rw [← HE.out] at h; cases h), HB3.out⟩
            · obtain ⟨bb, hbb⟩ : ∃ bb, decide (-500 ≤ v ∧ v ≤ 500) = bb := ⟨_, rfl⟩
              have hvz : v ≠ 0 := by simpa using h3
              have hdc : decide (v ≠ 0 ∧ -500 ≤ v ∧ v ≤ 500) = bb := by rw [← hbb]; exact decide_eq_decide.2 ⟨fun h => h.2, fun h => ⟨hvz, h⟩⟩
              have HE := Lib.hid (fits_yes (a := a0) (m := m) (n := n) (v := v) h1 h2 bb hdc)
              have HE2 : Hid (bb = true → (if v ≠ 0 ∧ -500 ≤ v ∧ v ≤ 500 then some (n, v) else none) = some (n, v)) := fun h => if_pos (of_decide_eq_true (hdc.trans h))
              have Hbb := Lib.hid hbb
              clear hbb hdc hvz
              generalize (if v ≠ 0 ∧ -500 ≤ v ∧ v ≤ 500 then some (n, v) else none) = rr at *
              generalize Gt.fits a0 m rr = ok at *
              go_enter Tryz.func33, Tryz.ntmps33
              go_wp2_with fail
              rw [← HW.out]
              refine HS.out.mono ?_
              rintro e w1 ⟨v, rfl, ho, k⟩
              obtain ⟨g, cap, hvv, hcap, hg0, hg1, hcs⟩ := gt_strs ho HNe.out
              have HB1 := Lib.hid (HB.out.trans (k.mono HB.out.size))
              have HC1 := Lib.hid (HC.out.below k)
              have hc0 := hcs 0 a rfl
              have hc1 := hcs 1 b rfl
              obtain rfl : v = .slice (some ⟨g, 0, none⟩) 2 cap := hvv
              replace hcap : 2 ≤ cap := hcap
              clear k ho HS HW HC HB HNe hg0 hcs
              go_wp2_with fail
              refine (HPc.out _).mono ?_
              rintro e w2 ⟨rfl, k⟩
              have HB2 := Lib.hid (HB1.out.trans (k.mono HB1.out.size))
              have HC2 := Lib.hid (HC1.out.below k)
              have hc1 := cell_after k hg1 hc1
              clear k hc0 HB1 HC1 HPc
              go_wp2_with fail
              refine (HPi.out _).mono ?_
              rintro e w3 ⟨rfl, k⟩
              have HB3 := Lib.hid (HB2.out.trans (k.mono HB2.out.size))
              have HC3 := Lib.hid (HC2.out.below k)
              obtain ⟨d0, d1⟩ := two HC3.out
              clear k hc1 HB2 HC2 HPi
              go_wp2_with fail
              refine (spec_l1In v (-500) 500 bb Hbb.out _).mono ?_
              rintro e w4 ⟨rfl, rfl⟩
              go_wp2_with fail
              go_ret3
              exact ⟨n, v, by have h9 := HE.out; subst h9; rfl, fun h => ⟨HE2.out (by rw [HE.out]; exact h), by omega⟩, HB3.out⟩
          · have q2 : decide (n < m) = false := decide_eq_false h2
            have q2i : decide ((n : Int) < (m : Int)) = false := by rw [decide_eq_false_iff_not]; omega
            have HE := Lib.hid (fits_if (a := a0) (m := m) (n := n) (v := v) (c := v ≠ 0 ∧ -500 ≤ v ∧ v ≤ 500) (.inl (fun h => h2 h.2)))
            generalize (if v ≠ 0 ∧ -500 ≤ v ∧ v ≤ 500 then some (n, v) else none) = rr at *; generalize Gt.fits a0 m rr = ok at *
            go_enter Tryz.func33, Tryz.ntmps33
            go_wp2_with fail
            rw [← HW.out]
            refine HS.out.mono ?_
            rintro e w1 ⟨v, rfl, ho, k⟩
            obtain ⟨g, cap, hvv, hcap, hg0, hg1, hcs⟩ := gt_strs ho HNe.out
            have HB1 := Lib.hid (HB.out.trans (k.mono HB.out.size))
            have HC1 := Lib.hid (HC.out.below k)
            have hc0 := hcs 0 a rfl
            have hc1 := hcs 1 b rfl
            obtain rfl : v = .slice (some ⟨g, 0, none⟩) 2 cap := hvv
            replace hcap : 2 ≤ cap := hcap
            clear k ho HS HW HC HB HNe hg0 hcs
            go_wp2_with fail
            refine (HPc.out _).mono ?_
            rintro e w2 ⟨rfl, k⟩
            have HB2 := Lib.hid (HB1.out.trans (k.mono HB1.out.size))
            have HC2 := Lib.hid (HC1.out.below k)
            have hc1 := cell_after k hg1 hc1
            clear k hc0 HB1 HC1 HPc
            go_wp2_with fail
            refine (HPi.out _).mono ?_
            rintro e w3 ⟨rfl, k⟩
            have HB3 := Lib.hid (HB2.out.trans (k.mono HB2.out.size))
            have HC3 := Lib.hid (HC2.out.below k)
            obtain ⟨d0, d1⟩ := two HC3.out
            clear k hc1 HB2 HC2 HPi
            go_wp2_with fail
            go_ret3
            exact ⟨n, v, by have h9 := HE.out; subst h9; rfl, (fun h => by rw [← HE.out] at h; cases h), HB3.out⟩
        · have q1 : decide (a0 < n) = false := decide_eq_false h1
          have q1i : decide ((a0 : Int) < (n : Int)) = false := by rw [decide_eq_false_iff_not]; omega
          have HE := Lib.hid (fits_if (a := a0) (m := m) (n := n) (v := v) (c := v ≠ 0 ∧ -500 ≤ v ∧ v ≤ 500) (.inl (fun h => h1 h.1)))
          generalize (if v ≠ 0 ∧ -500 ≤ v ∧ v ≤ 500 then some (n, v) else none) = rr at *; generalize Gt.fits a0 m rr = ok at *
          go_enter Tryz.func33, Tryz.ntmps33
          go_wp2_with fail
          rw [← HW.out]
          refine HS.out.mono ?_
          rintro e w1 ⟨v, rfl, ho, k⟩
          obtain ⟨g, cap, hvv, hcap, hg0, hg1, hcs⟩ := gt_strs ho HNe.out
          have HB1 := Lib.hid (HB.out.trans (k.mono HB.out.size))
          have HC1 := Lib.hid (HC.out.below k)
          have hc0 := hcs 0 a rfl
          have hc1 := hcs 1 b rfl
          obtain rfl : v = .slice (some ⟨g, 0, none⟩) 2 cap := hvv
          replace hcap : 2 ≤ cap := hcap
          clear k ho HS HW HC HB HNe hg0 hcs
          go_wp2_with fail
          refine (HPc.out _).mono ?_
          rintro e w2 ⟨rfl, k⟩
          have HB2 := Lib.hid (HB1.out.trans (k.mono HB1.out.size))
          have HC2 := Lib.hid (HC1.out.below k)
          have hc1 := cell_after k hg1 hc1
          clear k hc0 HB1 HC1 HPc
          go_wp2_with fail
          refine (HPi.out _).mono ?_
          rintro e w3 ⟨rfl, k⟩
          have HB3 := Lib.hid (HB2.out.trans (k.mono HB2.out.size))
          have HC3 := Lib.hid (HC2.out.below k)
          obtain ⟨d0, d1⟩ := two HC3.out
          clear k hc1 HB2 HC2 HPi
          go_wp2_with fail
          go_ret3
          exact ⟨n, v, by have h9 := HE.out; subst h9; rfl, (fun h => by rw [← HE.out] at h; cases h), HB3.out⟩
      · have HE := Lib.hid (fits_false (a := a0) (m := m) (Gt.line_nonum (hww : Gt.wordsOf l = [a, b]) hv1))
        generalize Gt.fits a0 m (Gt.rdLine l) = ok at *
        clear hww hv1 hn
        go_enter Tryz.func33, Tryz.ntmps33
        go_wp2_with fail
        rw [← HW.out]
        refine HS.out.mono ?_
        rintro e w1 ⟨v, rfl, ho, k⟩
        obtain ⟨g, cap, hvv, hcap, hg0, hg1, hcs⟩ := gt_strs ho HNe.out
        have HB1 := Lib.hid (HB.out.trans (k.mono HB.out.size))
        have HC1 := Lib.hid (HC.out.below k)
        have hc0 := hcs 0 a rfl
        have hc1 := hcs 1 b rfl
        obtain rfl : v = .slice (some ⟨g, 0, none⟩) 2 cap := hvv
        replace hcap : 2 ≤ cap := hcap
        clear k ho HS HW HC HB HNe hg0 hcs
        go_wp2_with fail
        refine (HPc.out _).mono ?_
        rintro e w2 ⟨rfl, k⟩
        have HB2 := Lib.hid (HB1.out.trans (k.mono HB1.out.size))
        have HC2 := Lib.hid (HC1.out.below k)
        have hc1 := cell_after k hg1 hc1
        clear k hc0 HB1 HC1 HPc
        go_wp2_with fail
        refine (HPi.out _).mono ?_
        rintro e w3 ⟨rfl, k⟩
        have HB3 := Lib.hid (HB2.out.trans (k.mono HB2.out.size))
        have HC3 := Lib.hid (HC2.out.below k)
        obtain ⟨d0, d1⟩ := two HC3.out
        clear k hc1 HB2 HC2 HPi
        go_wp2_with fail
        go_ret3
        exact ⟨n, v, by have h9 := HE.out; subst h9; rfl, (fun h => by rw [← HE.out] at h; cases h), HB3.out⟩
    · have HE := Lib.hid (fits_false (a := a0) (m := m) (Gt.line_noword (hww : Gt.wordsOf l = [a, b]) hn))
      generalize Gt.fits a0 m (Gt.rdLine l) = ok at *
      clear hww hv hn
      go_enter Tryz.func33, Tryz.ntmps33
      go_wp2_with fail
      rw [← HW.out]
      refine HS.out.mono ?_
      rintro e w1 ⟨v, rfl, ho, k⟩
      obtain ⟨g, cap, hvv, hcap, hg0, hg1, hcs⟩ := gt_strs ho HNe.out
      have HB1 := Lib.hid (HB.out.trans (k.mono HB.out.size))
      have HC1 := Lib.hid (HC.out.below k)
      have hc0 := hcs 0 a rfl
      have hc1 := hcs 1 b rfl
      obtain rfl : v = .slice (some ⟨g, 0, none⟩) 2 cap := hvv
      replace hcap : 2 ≤ cap := hcap
      clear k ho HS HW HC HB HNe hg0 hcs
      go_wp2_with fail
      refine (HPc.out _).mono ?_
      rintro e w2 ⟨rfl, k⟩
      have HB2 := Lib.hid (HB1.out.trans (k.mono HB1.out.size))
      have HC2 := Lib.hid (HC1.out.below k)
      have hc1 := cell_after k hg1 hc1
      clear k hc0 HB1 HC1 HPc
      go_wp2_with fail
      refine (HPi.out _).mono ?_
      rintro e w3 ⟨rfl, k⟩
      have HB3 := Lib.hid (HB2.out.trans (k.mono HB2.out.size))
      have HC3 := Lib.hid (HC2.out.below k)
      obtain ⟨d0, d1⟩ := two HC3.out
      clear k hc1 HB2 HC2 HPi
      go_wp2_with fail
      go_ret3
      exact ⟨0, v, by have h9 := HE.out; subst h9; rfl, (fun h => by rw [← HE.out] at h; cases h), HB3.out⟩
end Go.Proofs.YtambneapofaclaaGreatDoor
