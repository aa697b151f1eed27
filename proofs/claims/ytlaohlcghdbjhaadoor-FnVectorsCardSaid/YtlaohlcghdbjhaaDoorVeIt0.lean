/- Ranges over functions: what an iterator promises; IntsToRats's iterator. -/
import Derived.Test.YtlaohlcghdbjhaaDoorVeC3
import Derived.RangeFuncNested
import Derived.RangeFuncBound
import Derived.RangeFuncCalls
import Derived.RangeFuncLeaves
import Derived.Shelf.Abstract
import Derived.Shelf.RegionOpen
import Derived.WalkKit
import Derived.OwnWalkIn
import Derived.TacticsInMore
import Derived.LoopNIn
import Derived.LoopIn
namespace Go.Proofs.YtlaohlcghdbjhaaDoor
open Go.RowKit Go.Shelf
open Ve (R)
attribute [local go_sem] Oper.semAt_some

/-- What has come when k rounds are over. -/
def seqF {α : Type} (f : Nat → α) (k : Nat) : List α := (List.range k).map f
theorem seqF_succ {α : Type} (f : Nat → α) (k : Nat) : seqF f (k + 1) = seqF f k ++ [f k] := by simp [seqF, List.range_succ]
theorem seqF_len {α : Type} (f : Nat → α) (k : Nat) : (seqF f k).length = k := by simp [seqF]
/-- What a round that goes on keeps: whatever lies below n₀, and the blocks lo, .., hi - 1. -/
structure KeepR (n₀ lo hi : Nat) (W W' : World) : Prop where
  low : Below n₀ W W'
  mid : ∀ k, lo ≤ k → k < hi → W'.heap[k]? = W.heap[k]?
theorem KeepR.refl (n₀ lo hi : Nat) (W : World) : KeepR n₀ lo hi W W := ⟨Below.refl _ _, fun _ _ _ => rfl⟩
theorem KeepR.trans {n₀ lo hi : Nat} {A B C : World} (h : KeepR n₀ lo hi A B) (k : KeepR n₀ lo hi B C) : KeepR n₀ lo hi A C := ⟨h.low.trans k.low, fun i a b => (k.mid i a b).trans (h.mid i a b)⟩
theorem KeepR.of_below {n₀ lo hi : Nat} {W W' : World} (h : Below W.heap.size W W') (h1 : n₀ ≤ W.heap.size) (h2 : hi ≤ W.heap.size) : KeepR n₀ lo hi W W' := ⟨h.mono h1, fun k _ b => h.block k (by omega)⟩
theorem keepR_b {n₀ lo hi : Nat} {w : World} (hn : n₀ ≤ w.heap.size) (hh : hi ≤ w.heap.size) (W : World) (l : Nat) (o o' : Obj) (hl : w.heap.size ≤ l) (h : W.heap[l]? = some o) (h1 : o.isCells = false) (h2 : o.isWalk = false) : KeepR n₀ lo hi W (W.putObj l o') :=
  ⟨belowK_b hn W l o o' hl h h1 h2, fun k _ b => (grownBy_putObj' W l o').block k (by have := (Array.getElem?_eq_some_iff.1 h).1; omega) (fun e => by cases e; omega)⟩
theorem grown_of_below {W W' : World} (h : Below W.heap.size W W') : W.grownBy W' none := ⟨h.os, h.tape, h.output, h.size, fun k hk _ => h.block k hk⟩
theorem abides_below {β : Type} {B : Nat} {J : β → World → Prop} (hJ : AbidesFrom B J) {s : β} {W W' : World} (hs : J s W) (h : Below W.heap.size W W') : J s W' :=
  hJ s W W' none hs (grown_of_below h) (fun r e => by cases e)
/-- A fraction and whether it fits, as yield takes them. -/
def encP (x : R × Bool) : Array Value := #[.agg #[.int .i64 x.1.1, .int .i64 x.1.2], .bool x.2]
def encR (x : R) : Array Value := #[.agg #[.int .i64 x.1, .int .i64 x.2]]
set_option maxRecDepth 100000 in
set_option maxHeartbeats 2000000 in
theorem integers1 (n : Nat) (hn : 1 ≤ n) (l Bs n₀ lo hi : Nat) (a : Option Addr) (cap : Nat) (zs : List Int) (hz : zs.length ≤ 1048576) (B0 : Nat) (J Jx : List (R × Bool) → World → Prop) (hJ : AbidesFrom B0 J)
    (hY : ∀ pre x W, J pre W → pre.length < zs.length → YieldAt Fence.wide (n - 1) Tryd.prog l (encP x) W fun e W' =>
      (e = .returned (.bool true) ∧ J (pre ++ [x]) W' ∧ KeepR n₀ lo hi W W') ∨ (e = .returned (.bool false) ∧ Jx (pre ++ [x]) W'))
    (W : World) (hn₀ : n₀ ≤ W.heap.size) (hhi : hi ≤ W.heap.size) (hBs : W.cell? ⟨Bs, 0, none⟩ = some (.slice a zs.length cap)) (hI : NumsIn n₀ W a zs) (h0 : J [] W) :
    CallsIn Fence.wide n Tryd.prog 55 #[.func (.yield l) #[] #[], .pointer (some ⟨Bs, 0, none⟩)] W fun e W' => (∃ v, e = .returned v) ∧
      ((∃ ys, ys = seqF (Ve.ofI zs) zs.length ∧ J ys W') ∨ (∃ pre, (∃ k, k ≤ zs.length ∧ pre = seqF (Ve.ofI zs) k) ∧ Jx pre W')) := by
  have HI := Lib.hid hI
  have HY := Lib.hid hY
  have H0 := Lib.hid h0
  have HJ := Lib.hid hJ
  clear hI hY h0 hJ
  refine callsIn_of_wp Tryd.func55 rfl trivial ?_ rfl
  simp only [Tryd.ntmps55, List.size_toArray, List.length_cons, List.length_nil, Nat.reduceAdd, Nat.reduceSub, Array.replicate_succ, Array.replicate_zero, List.push_toArray, List.append_toArray, List.nil_append, List.cons_append]
  gi_wp2
  gi_loopw [7] (fun i wr => ∃ k : Nat, k ≤ zs.length ∧ i = .int .i64 k ∧ Hid (J (seqF (Ve.ofI zs) k) wr) ∧ Hid (KeepR n₀ lo hi W wr))
    (fun i _ => zs.length - (intOf i).toNat)
  case atStart => exact ⟨0, Nat.zero_le _, rfl, H0, KeepR.refl _ _ _ _⟩
  case round =>
    obtain ⟨k, hk, rfl, hJs, hnx⟩ := hrel
    by_cases hlt : k < zs.length
    · obtain ⟨b, o, rfl, l1, p0⟩ := (HI.out.below hnx.out.low) k hlt
      have HS := Lib.hid (seqF_succ (Ve.ofI zs) k)
      have HF := Lib.hid (show Ve.ofI zs k = ((Ra.rn (zs.getD k 0) 1, Ra.rd (zs.getD k 0) 1), Ra.fits (zs.getD k 0) 1) from rfl)
      generalize zs.getD k 0 = z at *
      gi_wp2_with fail
      refine ⟨trivial, (callsIn_wide.2 (impl_RatOf z 1 _)).mono ?_⟩
      rintro e w1 ⟨rfl, hb1⟩
      have hk1 := hnx.out.trans (KeepR.of_below hb1 (Nat.le_trans hn₀ hnx.out.low.size) (Nat.le_trans hhi hnx.out.low.size))
      obtain ⟨fn, tmps, assign, body, hy, hR⟩ := HY.out _ (Ve.ofI zs k) w1 (abides_below HJ.out hJs.out hb1) (by rw [seqF_len]; exact hlt)
      rw [HF.out] at hy
      dsimp only [encP] at hy
      have HR := Lib.hid hR
      have HK1 := Lib.hid hk1
      clear hR hk1 hb1
      gi_wp2_with fail
      refine HR.out.mono ?_
      rintro e W3 (⟨rfl, hJ3, hk3⟩ | ⟨rfl, hJx3⟩)
      · have HJ3 := Lib.hid hJ3
        have HK3 := Lib.hid (HK1.out.trans hk3)
        clear hJ3 hk3
        gi_wp2
        go_roundw
        case rel => exact ⟨k + 1, by omega, by go_num, by rw [HS.out]; exact HJ3, HK3⟩
        case measure => simp [intOf]; omega
      · have HJ3 := Lib.hid hJx3
        clear hJx3
        gi_wp2
        refine bodyPost_ret (results_none rfl _ _ _) rfl ?_
        exact ⟨⟨_, rfl⟩, .inr ⟨_, ⟨k + 1, by omega, HS.out.symm⟩, HJ3.out⟩⟩
    · obtain rfl : k = zs.length := by omega
      gi_wp2
      go_end0
      exact ⟨⟨_, rfl⟩, .inl ⟨_, rfl, hJs.out⟩⟩
end Go.Proofs.YtlaohlcghdbjhaaDoor
