/- The walk of FnExactSplitByte: for every text and byte the law returns true. -/
import Derived.Test.YtncmphicpgidbaaDoorImSplit
import Derived.Test.YtncmphicpgidbaaDoorSpSplit
import Derived.Test.YtncmphicpgidbaaDoorStrs
namespace Go.Proofs.YtncmphicpgidbaaDoor
open Go.RowKit

/-- A row of the call's own that holds at least one string: where it lies. -/
theorem own_at {B : Nat} {w : World} {v : Value} {xs : List ByteArray} (h : OwnStrs B w v xs) (h0 : 1 ≤ xs.length) :
    ∃ g cap, v = .slice (some ⟨g, 0, none⟩) xs.length cap ∧ B ≤ g ∧ g < w.heap.size ∧ StrsAt w g 0 xs := by
  have h' := h
  obtain ⟨h1, h2 | ⟨g, cap, cur, hv, hg, hh, hr⟩⟩ := h'
  · exact absurd h2.2 (by omega)
  · subst hv
    refine ⟨g, cap, rfl, hg, lt_of_block hh, fun j x hx => ?_⟩
    have hj : j < xs.length := (List.getElem?_eq_some_iff.1 hx).1
    have := World.ownsRow.cellAt h j (by omega)
    rw [Nat.zero_add, this]
    simp [hx]
theorem StrsAt.below {w w' : World} {g o : Nat} {xs : List ByteArray} (h : StrsAt w g o xs) (hg : g < w.heap.size) (hb : Below w.heap.size w w') : StrsAt w' g o xs := h.same (hb.block g hg)

namespace fnExactSplitByte
set_option maxRecDepth 100000 in
set_option maxHeartbeats 1000000 in
theorem walk0 (s : ByteArray) (b : UInt8) (w : World) (hm : MaxLenAt w) :
    Calls Tryd.prog 8 #[.string s, .int .u8 b.toNat] w fun e w' => e = .returned (.bool true) ∧ Below w.heap.size w w' := by
  by_cases hbig : 1048576 < s.size
  · have hb : decide ((1048576 : Int) < (s.size : Int)) = true := by rw [decide_eq_true_iff]; omega
    clear hm
    go_enter Tryd.func8, Tryd.ntmps8
    go_wp2_with fail
    go_ret
    exact ⟨rfl, Below.refl _ _⟩
  · have hsz : s.size ≤ 1048576 := by omega
    have hb : decide ((1048576 : Int) < (s.size : Int)) = false := by rw [decide_eq_false_iff_not]; omega
    have hl := Cut.cut_length b s.data.toList []
    have hn1 : 1 ≤ (Cut.parts b s.data.toList).length := by unfold Cut.parts; rw [List.length_map]; exact hl.1
    have hn2 : (Cut.parts b s.data.toList).length ≤ 1048577 := by
      unfold Cut.parts; rw [List.length_map]
      have := hl.2
      have e : s.data.toList.length = s.size := by simp
      omega
    have hS : ∀ W : World, Calls Tryd.prog 20 #[.string s, .int .u8 b.toNat] W (fun e w' => ∃ v, e = .returned v ∧ OwnStrs W.heap.size w' v (Cut.parts b s.data.toList) ∧ Below W.heap.size W w') := fun W => spec_SplitByte s b hsz W
    have hI := impl_SplitByte s b (by omega)
    generalize Cut.parts b s.data.toList = xs at *
    have HS := Lib.hid hS
    have HI := Lib.hid hI
    have Hm := Lib.hid hm
    clear hl hS hI hm
    go_enter Tryd.func8, Tryd.ntmps8
    go_wp2_with fail
    refine (HS.out w).mono ?_
    rintro e w1 ⟨v, rfl, ho1, hb1⟩
    obtain ⟨gs, cap, rfl, hg1, hg2, hat1⟩ := own_at ho1 hn1
    have Hb1 := Lib.hid hb1
    have Hat1 := Lib.hid hat1
    have Hm1 := Lib.hid (Hm.out.below hb1)
    clear ho1 hb1 hat1
    go_wp2_with fail
    refine (HI.out w1 Hm1.out).mono ?_
    rintro e w2 ⟨g, rfl, hrow, hge, hb2⟩
    have Hb2 := Lib.hid hb2
    have Hrow := Lib.hid hrow
    have hgl := lt_of_block hrow
    have Hm2 := Lib.hid (Hm1.out.below hb2)
    have Hat2 := Lib.hid (Hat1.out.below hg2 hb2)
    have Hsz2 := Lib.hid hb2.size
    clear hrow hb2
    go_wp2_with fail
    refine (eqStrs g 0 xs.length gs 0 cap xs (by omega) w2 (StrsAt.of_block Hrow.out) Hat2.out).mono ?_
    rintro e w3 ⟨rfl, d, rfl⟩
    go_wp2_with fail
    refine (markStrs g xs.length 1 xs (by omega) (by decide) (by decide) (w2.drewN d) Hrow.out).mono ?_
    rintro e w4 ⟨rfl, hr4⟩
    have Hg4 := Lib.hid (lt_of_block hr4.1)
    have Hr4 := Lib.hid hr4
    have Hs4 := Lib.hid (show w2.heap.size ≤ w4.heap.size from hr4.2.size)
    have Hat4 := Lib.hid (Hat2.out.same (w' := w4) (hr4.2.block gs (by show gs < w2.heap.size; have := Hsz2.out; omega) (by intro e; have := Option.some.inj e; omega)))
    have Hmk := Lib.hid (show StrsAt w4 g 0 (marks 1 xs.length) from StrsAt.of_block hr4.1)
    clear hr4
    have hgg : gs < w2.heap.size := by have := Hsz2.out; omega
    have hgr4 : gs < w4.heap.size := by have := Hs4.out; omega
    have hM4 : MaxLenAt w4 := by
      obtain ⟨mm, hmm⟩ := Hm2.out
      refine ⟨mm, ?_⟩
      rw [World.cell?_of_block (w := w2)]
      · exact hmm
      · have h1 := block_lt hmm
        have h0 : 3 < w1.heap.size := by
          obtain ⟨m1, hm1⟩ := Hm1.out
          exact block_lt hm1
        exact Hr4.out.2.block _ h1 (by intro e; have := Option.some.inj e; simp at this; omega)
    have HM4 := Lib.hid hM4
    have Hb04 : Hid (Below w.heap.size w w4) := by
      have e1 : Below w.heap.size w w2 := Hb1.out.trans (Hb2.out.mono Hb1.out.size)
      have e2 : Below w.heap.size w (w2.drewN d) := ⟨e1.os, e1.tape, e1.output, e1.size, e1.block⟩
      exact e2.grown Hr4.out.2 e2.size (fun k hk => by have := Option.some.inj hk; have := Hb1.out.size; omega)
    clear hM4
    go_wp2_with fail
    refine (heldStrs g xs.length 1 xs.length (by omega) (by decide) (by decide) w4 Hg4.out Hmk.out).mono ?_
    rintro e w5 ⟨rfl, hb5⟩
    have Hb5 := Lib.hid hb5
    have HM5 := Lib.hid (HM4.out.below hb5)
    have Hat5 := Lib.hid (Hat4.out.below hgr4 hb5)
    have Hmk5 := Lib.hid (Hmk.out.below Hg4.out hb5)
    have Hs5 := Lib.hid hb5.size
    have hg5 : g < w5.heap.size := by have := Hg4.out; have := Hs5.out; omega
    have hgs5 : gs < w5.heap.size := by have := Hs5.out; omega
    clear hb5
    go_wp2_with fail
    refine (HI.out w5 HM5.out).mono ?_
    rintro e w6 ⟨g2, rfl, hrow6, hge6, hb6⟩
    have Hb6 := Lib.hid hb6
    have Hrow6 := Lib.hid hrow6
    have Hat6 := Lib.hid (Hat5.out.below hgs5 hb6)
    have Hmk6 := Lib.hid (Hmk5.out.below hg5 hb6)
    have hg6 : g < w6.heap.size := by have := hb6.size; omega
    clear hrow6 hb6
    go_wp2_with fail
    refine (eqStrs g2 0 xs.length gs 0 cap xs (by omega) w6 (StrsAt.of_block Hrow6.out) Hat6.out).mono ?_
    rintro e w7 ⟨rfl, d2, rfl⟩
    go_wp2_with fail
    refine (heldStrs g xs.length 1 xs.length (by omega) (by decide) (by decide) (w6.drewN d2) hg6 Hmk6.out).mono ?_
    rintro e w8 ⟨rfl, hb8⟩
    have Hfin : Hid (Below w.heap.size w w8) := by
      have e5 := Hb04.out.trans (Hb5.out.mono Hb04.out.size)
      have e6 := e5.trans (Hb6.out.mono e5.size)
      have e7 : Below w.heap.size w (w6.drewN d2) := ⟨e6.os, e6.tape, e6.output, e6.size, e6.block⟩
      exact e7.trans (hb8.mono e7.size)
    clear hb8
    go_wp2_with fail
    go_ret
    exact ⟨rfl, Hfin⟩
theorem walk (s : ByteArray) (_ws : s.size ≤ maxLen) (x : Int) (wx : (Lit.int .u8 x).wf = true) (w : World) (hm : MaxLenAt w) :
    Calls Tryd.prog 8 #[.string s, .int .u8 x] w fun e w' => e = .returned (.bool true) ∧ Below w.heap.size w w' := by
  have e1 : IntKind.u8.min = 0 := rfl
  have e2 : IntKind.u8.max = 255 := rfl
  simp [Lit.wf, e1, e2] at wx
  have hx : x = ((UInt8.ofNat x.toNat).toNat : Int) := by
    rw [UInt8.toNat_ofNat_of_lt' (by show x.toNat < 256; omega)]; omega
  rw [hx]
  exact walk0 s _ w hm
end fnExactSplitByte
end Go.Proofs.YtncmphicpgidbaaDoor
