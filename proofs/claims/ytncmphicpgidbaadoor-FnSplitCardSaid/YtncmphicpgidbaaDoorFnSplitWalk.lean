/- The walk of FnSplit: whatever the code, the law returns true. -/
import Derived.Test.YtncmphicpgidbaaDoorSplitWalk
import Derived.Test.YtncmphicpgidbaaDoorNumWalk
namespace Go.Proofs.YtncmphicpgidbaaDoor
open Go.RowKit

theorem impl_Join (bk c : Nat) (xs : List ByteArray) (sep : ByteArray) (w : World) (hcells : StrsAt w bk 0 xs) (hbk : bk < w.heap.size) (hN : xs.length ≤ 1048577) (hcap : xs.length ≤ c)
    (hlen : (Lib.join (xs.map (·.data.toList)) sep.data.toList).length ≤ 140737488355328) :
    Calls Tryd.prog 19 #[.slice (some ⟨bk, 0, none⟩) xs.length c, .string sep] w fun e w' => e = .returned (.string ⟨(Lib.join (xs.map (·.data.toList)) sep.data.toList).toArray⟩) ∧ Below w.heap.size w w' := by
  have H := Lib.hid hcells
  clear hcells
  go_enter Tryd.func19, Tryd.ntmps19
  go_wp2_with fail
  refine (Tryd.strings_Join bk 0 c xs sep w H.out hbk (by omega) hcap hlen).mono ?_
  rintro e w1 ⟨rfl, hb⟩
  go_wp2_with fail
  go_ret
  exact ⟨rfl, hb⟩

def texts6 : List ByteArray := [⟨#[]⟩, ⟨#[97]⟩, ⟨#[97, 44, 98]⟩, ⟨#[44]⟩, ⟨#[97, 44, 44, 98, 44]⟩, ⟨#[97, 10, 98, 10]⟩]
theorem texts6_bd : ∀ v ∈ texts6, v.size ≤ 100 := by unfold texts6; decide
theorem texts6_cells : (texts6.map Value.string).toArray = #[.string ⟨#[]⟩, .string ⟨#[97]⟩, .string ⟨#[97, 44, 98]⟩, .string ⟨#[44]⟩, .string ⟨#[97, 44, 44, 98, 44]⟩, .string ⟨#[97, 10, 98, 10]⟩] := rfl
def bytes2 : List Int := [44, 10]
theorem bytes2_bd : ∀ v ∈ bytes2, 0 ≤ v ∧ v ≤ 255 := by unfold bytes2; decide
theorem bytes2_cells : (bytes2.map (Value.int .i64)).toArray = #[.int .i64 44, .int .i64 10] := rfl
def SomeSplit (B : Nat) (w : World) (e : Ending) (w' : World) : Prop :=
  ∃ (x : ByteArray) (y : Int), e = .returned (.tuple #[.string x, .int .u8 y]) ∧ x.size ≤ 100 ∧ 0 ≤ y ∧ y ≤ 255 ∧ Below B w w'

set_option maxRecDepth 100000 in
set_option maxHeartbeats 1000000 in
theorem spec_DrawSplitByte (a : Option Addr) (len cap : Nat) (w : World) (hcode : CodeAt w.heap.size w a len) :
    Calls Tryd.prog 17 #[.slice a len cap] w (SomeSplit w.heap.size w) := by
  have Hc := Lib.hid hcode
  clear hcode
  go_enter Tryd.func17, Tryd.ntmps17
  go_wp2_with fail
  refine (spec_l1New w.heap.size a len cap w Hc.out).mono ?_
  rintro e w1 ⟨rfl, hc1, hb1, hsz⟩
  have hB1 : w.heap.size ≤ w1.heap.size := hb1.size
  have Hb1 := Lib.hid hb1
  have Hp := Lib.hid hc1.lt
  have Hu1 := Lib.hid (hc1.alloc (.cells (texts6.map Value.string).toArray 9))
  have Hl := Lib.hid (ListAt.new w1 (texts6.map Value.string) 9)
  rw [texts6_cells] at Hu1 Hl
  have Hb1' := Lib.hid (hb1.alloc hB1 (.cells (texts6.map Value.string).toArray 9))
  rw [texts6_cells] at Hb1'
  clear hc1 hb1 hsz
  go_wp2_with fail
  refine (spec_l1Pick w.heap.size w.heap.size w1.heap.size a len cap 6 texts6 (by decide) (by decide) _ (Nat.le_refl _) (by have := Hp.out; omega) (by simp) Hl.out Hu1.out (Hc.out.below Hb1'.out)).mono ?_
  rintro e w2 ⟨v, rfl, hv, hc2, ho2⟩
  obtain ⟨y, hy, rfl⟩ := List.mem_map.1 hv
  have hbd := texts6_bd y hy
  have Hb2 := Lib.hid (Hb1'.out.trans (ho2.below (Nat.le_refl _)))
  have hB2 : w.heap.size ≤ w2.heap.size := Hb2.out.size
  have Hp2 := Lib.hid hc2.lt
  have Hu2 := Lib.hid (hc2.alloc (.cells (bytes2.map (Value.int .i64)).toArray 3))
  have Hl2 := Lib.hid (ListAt.new w2 (bytes2.map (Value.int .i64)) 3)
  have Hb2' := Lib.hid (Hb2.out.alloc hB2 (.cells (bytes2.map (Value.int .i64)).toArray 3))
  rw [bytes2_cells] at Hu2 Hl2 Hb2'
  clear hv hy hc2 ho2
  go_wp2_with fail
  refine (spec_l1PickInt w.heap.size w.heap.size w2.heap.size a len cap 2 bytes2 (by decide) (by decide) _ (Nat.le_refl _) (by have := Hp2.out; omega) (by simp) Hl2.out Hu2.out (Hc.out.below Hb2'.out)).mono ?_
  rintro e w3 ⟨v, rfl, hv, hc3, ho3⟩
  obtain ⟨z, hz, rfl⟩ := List.mem_map.1 hv
  have hbd2 := bytes2_bd z hz
  have Hb3 := Lib.hid (Hb2'.out.trans (ho3.below (Nat.le_refl _)))
  obtain ⟨z0, z1⟩ := hbd2
  clear hv hz hc3 ho3
  go_wp2_with fail
  go_ret2
  exact ⟨_, _, rfl, hbd, z0, z1, Hb3⟩

namespace fnSplit
set_option maxRecDepth 100000 in
set_option maxHeartbeats 2000000 in
theorem walk0 (a : Option Addr) (len cap : Nat) (w : World) (hcode : CodeAt w.heap.size w a len) (hm : MaxLenAt w) :
    Calls Tryd.prog 4 #[.slice a len cap] w fun e w' => e = .returned (.bool true) ∧ Below w.heap.size w w' := by
  have Hc := Lib.hid hcode
  have Hm := Lib.hid hm
  clear hcode hm
  by_cases hbig : 1048576 < len
  · go_enter Tryd.func4, Tryd.ntmps4
    go_wp2_with fail
    refine (fnNumbers.big_yes a len cap hbig w).mono ?_
    rintro e w1 ⟨rfl, rfl⟩
    go_wp2_with fail
    go_ret
    exact ⟨rfl, Below.refl _ _⟩
  · go_enter Tryd.func4, Tryd.ntmps4
    go_wp2_with fail
    refine (fnNumbers.big_no a len cap (by omega) w).mono ?_
    rintro e w1 ⟨rfl, rfl⟩
    go_wp2_with fail
    refine (spec_DrawSplitByte a len cap w Hc.out).mono ?_
    rintro e w1 ⟨s, y, rfl, hs, hy0, hy1, hb1⟩
    obtain ⟨b, rfl⟩ : ∃ b : UInt8, y = (b.toNat : Int) := ⟨UInt8.ofNat y.toNat, by rw [UInt8.toNat_ofNat_of_lt' (by show y.toNat < 256; omega)]; omega⟩
    have hl := Cut.cut_length b s.data.toList []
    have hn1 : 1 ≤ (Cut.parts b s.data.toList).length := by unfold Cut.parts; rw [List.length_map]; exact hl.1
    have hn2 : (Cut.parts b s.data.toList).length ≤ 101 := by
      unfold Cut.parts; rw [List.length_map]
      have := hl.2
      have e : s.data.toList.length = s.size := by simp
      omega
    have Hone : Hid (∀ p ∈ Cut.parts b s.data.toList, (Cut.parts b p.data.toList).length = 1 ∧ p.size ≤ 100) := fun p hp => by
      refine ⟨Cut.parts_one hp, ?_⟩
      unfold Cut.parts at hp
      obtain ⟨q, hq, rfl⟩ := List.mem_map.1 hp
      have h1 := Cut.part_le hq
      have e : s.data.toList.length = s.size := by simp
      show q.toArray.size ≤ 100
      simp at h1 ⊢
      omega
    have Hj := Lib.hid (Cut.join_parts b s)
    have HS := Lib.hid (show ∀ W : World, Calls Tryd.prog 20 #[.string s, .int .u8 b.toNat] W (fun e w' => ∃ v, e = .returned v ∧ OwnStrs W.heap.size w' v (Cut.parts b s.data.toList) ∧ Below W.heap.size W w') from fun W => spec_SplitByte s b (by omega) W)
    have HI := Lib.hid (impl_SplitByte s b (by omega))
    have Hjl : Hid ((Lib.join ((Cut.parts b s.data.toList).map (·.data.toList)) [b]).length ≤ 100) := by
      show _ ≤ _
      have := congrArg ByteArray.size Hj.out
      have e : (⟨(Lib.join ((Cut.parts b s.data.toList).map (·.data.toList)) [b]).toArray⟩ : ByteArray).size = (Lib.join ((Cut.parts b s.data.toList).map (·.data.toList)) [b]).length := by
        show (Lib.join ((Cut.parts b s.data.toList).map (·.data.toList)) [b]).toArray.size = _
        simp
      omega
    generalize Cut.parts b s.data.toList = xs at *
    have Hb1 := Lib.hid hb1
    have Hm1 := Lib.hid (Hm.out.below hb1)
    clear hl hb1
    go_wp2_with fail
    refine (HI.out w1 Hm1.out).mono ?_
    rintro e w2 ⟨g, rfl, hrow, hge, hb2⟩
    have hgl := lt_of_block hrow
    have Hb2 := Lib.hid (Hb1.out.trans (hb2.mono Hb1.out.size))
    have Hm2 := Lib.hid (Hm1.out.below hb2)
    have Hat2 := Lib.hid (StrsAt.of_block hrow)
    have hcv := conv_one w2 (b.toNat : Int) b rfl
    have hnew : Below w2.heap.size w2 (w2.alloc (.cells #[.int .u8 b.toNat] 5)) := (Below.refl _ _).alloc (Nat.le_refl _) _
    have Hb3 := Lib.hid (Hb2.out.alloc Hb2.out.size (.cells #[.int .u8 b.toNat] 5))
    have Hm3 := Lib.hid (Hm2.out.below hnew)
    have Hat3 := Lib.hid (Hat2.out.below hgl hnew)
    clear hrow hb2 hnew
    go_wp2_with fail
    refine (impl_Join g xs.length xs ⟨#[b]⟩ _ Hat3.out (by simp; omega) (by omega) (Nat.le_refl _) (Nat.le_trans Hjl.out (by decide))).mono ?_
    rintro e w4 ⟨rfl, hb4⟩
    have Hb4 := Lib.hid (Hb3.out.trans (hb4.mono Hb3.out.size))
    have Hm4 := Lib.hid (Hm3.out.below hb4)
    have Hat4 := Lib.hid (Hat3.out.below (by simp; omega) hb4)
    have hg4 : g < w4.heap.size := by have := hb4.size; simp at this; omega
    have ej : (⟨(Lib.join (xs.map (·.data.toList)) (⟨#[b]⟩ : ByteArray).data.toList).toArray⟩ : ByteArray) = s := Hj.out
    rw [ej]
    clear hb4 ej
    go_wp2_with fail
    refine (HS.out w4).mono ?_
    rintro e w5 ⟨v, rfl, ho5, hb5⟩
    obtain ⟨gs, cap5, rfl, _, _, _⟩ := own_at ho5 hn1
    have Hb5 := Lib.hid (Hb4.out.trans (hb5.mono Hb4.out.size))
    have Hm5 := Lib.hid (Hm4.out.below hb5)
    have Hat5 := Lib.hid (Hat4.out.below hg4 hb5)
    have hg5 : g < w5.heap.size := by have := hb5.size; omega
    clear ho5 hb5
    go_wp2_with fail
    go_loopw [6] (fun i wr => ∃ k : Nat, k ≤ xs.length ∧ i = .int .i64 k ∧ Hid (Below w.heap.size w wr) ∧ Hid (StrsAt wr g 0 xs) ∧ g < wr.heap.size ∧ Hid (MaxLenAt wr)) (fun i _ => xs.length - (intOf i).toNat)
    case atStart => exact ⟨0, Nat.zero_le _, rfl, Hb5, Hat5, hg5, Hm5⟩
    case round =>
      obtain ⟨k, hk, rfl, hB, hA, hgr, hM⟩ := hrel
      by_cases hlt : k < xs.length
      · have hx : xs[k]? = some xs[k] := List.getElem?_eq_getElem hlt
        have hcell := hA.out k _ hx
        rw [Nat.zero_add] at hcell
        have hp := Hone.out xs[k] (List.getElem_mem hlt)
        have hsz := hp.2
        have Hp := Lib.hid hp.1
        clear hx hp
        go_wp2_with fail
        refine (impl_SplitByte xs[k] b (by omega) wr hM.out).mono ?_
        rintro e w6 ⟨g6, rfl, _, _, hb6⟩
        have Hb6 := Lib.hid (hB.out.trans (hb6.mono hB.out.size))
        have HA6 := Lib.hid (hA.out.below hgr hb6)
        have HM6 := Lib.hid (hM.out.below hb6)
        have hg6 : g < w6.heap.size := by have := hb6.size; omega
        rw [Hp.out]
        clear hb6
        go_wp2_with fail
        go_roundw
        case rel => exact ⟨k + 1, by omega, by go_num, Hb6, HA6, hg6, HM6⟩
        case measure => simp [intOf]; omega
      · go_wp2_with fail
        go_ret
        exact ⟨rfl, hB⟩
theorem walk (a : Option Addr) (len cap : Nat) (zs : List Int) (w : World) (hz : IntsAt .u8 w.heap.size w a len zs) (hm : MaxLenAt w) :
    Calls Tryd.prog 4 #[.slice a len cap] w fun e w' => e = .returned (.bool true) ∧ Below w.heap.size w w' :=
  walk0 a len cap w (fnNumbers.code_of hz) hm
end fnSplit
end Go.Proofs.YtncmphicpgidbaaDoor
