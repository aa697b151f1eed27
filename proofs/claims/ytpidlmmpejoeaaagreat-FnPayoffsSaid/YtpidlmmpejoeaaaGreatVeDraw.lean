/- The draws of chapter 4: whatever the code, a list of fractions (or of numbers) of at most four is drawn. -/
import Derived.Test.YtpidlmmpejoeaaaGreatDrI
import Derived.Test.YtpidlmmpejoeaaaGreatRaDraw
import Derived.Test.YtpidlmmpejoeaaaGreatGVb
import Derived.Test.YtpidlmmpejoeaaaGreatRow
import Derived.Laws.AppendOwn
namespace Go.Proofs.YtpidlmmpejoeaaaGreat
open Go.RowKit
open Ve (R)
theorem OwnRats.only {B p : Nat} {w w' : World} {v : Value} {xs : List R} (h : OwnRats B w v xs) (ho : Only p w w') (hp : p < B) : OwnRats B w' v xs := by
 obtain ⟨h1, h2 | ⟨g, cap, cur, e, hg, hh, rest⟩⟩ := h
 ·
  exact ⟨h1, .inl h2⟩
 ·
  exact ⟨h1, .inr ⟨g, cap, cur, e, hg, (ho.block (by omega) (lt_of_at hh)).trans hh, rest⟩⟩
def DrewRats (n p : Nat) (a : Option Addr) (len cap : Nat) (w : World) (e : Ending) (w' : World) : Prop :=
 ∃ (v : Value) (xs : List R), e = .returned v ∧ xs.length = n ∧ OwnRats w.heap.size w' v xs ∧ Cur w' p a len cap ∧ Only p w w'
def SomeRats (p : Nat) (a : Option Addr) (len cap : Nat) (w : World) (k : Nat) (v : Value) (wr : World) : Prop :=
 ∃ xs : List R, xs.length = k ∧ OwnRats w.heap.size wr v xs ∧ Cur wr p a len cap ∧ Only p w wr
set_option maxRecDepth 100000 in
set_option maxHeartbeats 2000000 in
theorem spec_l4Draw (B p n : Nat) (hn : n ≤ 1000) (a : Option Addr) (len cap : Nat) (w : World) (hB : B ≤ p) (hcur : Cur w p a len cap) (hcode : CodeAt B w a len) :
  Calls Tryz.prog 50 #[.pointer (some ⟨p, 0, none⟩), .int .i64 n] w (DrewRats n p a len cap w) := by
 have hp := hcur.lt
 obtain ⟨i0, hi, hz0, hz1, hz2⟩ := info_parts info_rat
 have HI := zH hi
 have HZ0 := zH hz0
 have HZ1 := zH hz1
 have HZ2 := zH hz2
 have Hc := zH hcode
 have HX : Hid (SomeRats p a len cap w 0 (.slice (some ⟨w.heap.size, 0, none⟩) 0 0) (w.alloc (.cells #[] 32))) :=
  ⟨[], rfl, World.ownsRow_made w #[] 0 (Nat.le_refl _) (Nat.zero_le _) rfl, hcur.alloc _, (Only.refl p w).alloc (by omega) _⟩
 clear hi hz0 hz1 hz2 hcur hcode
 go_enter Tryz.func50, Tryz.ntmps50
 go_wp2_with fail
 go_loopw [5, 6] (fun v i wr => ∃ k : Nat, k ≤ n ∧ i = .int .i64 k ∧ Hid (SomeRats p a len cap w k v wr)) (fun _ i _ => n - (intOf i).toNat)
 case atStart => exact ⟨0, Nat.zero_le _, rfl, HX⟩
 case round =>
  obtain ⟨k, hk, rfl, hX⟩ := hrel
  by_cases hlt : k < n
  ·
   obtain ⟨xs, hl, ho, hc, hO⟩ := hX.out
   have HO := zH ho
   have HC := zH hc
   have HOn := zH hO
   have hxl := Nat.le_of_eq hl
   have HL := zH hl
   clear hl ho hc hO
   go_wp2_with fail
   refine (spec_l3Draw B p a len cap wr hB HC.out (Hc.out.below (HOn.out.below hB))).mono ?_
   rintro e w2 ⟨N, D, rfl, hc2, ho2⟩
   have HC2 := zH hc2
   have HOn2 := zH (HOn.out.trans ho2)
   have hsz2 : w.heap.size ≤ w2.heap.size := HOn2.out.low.size
   have Hown := zH (World.ownsRow.alloc (HO.out.only ho2 hp) (.cells #[.int .i64 N, .int .i64 D] 32))
   clear hc2 ho2
   go_wp2_with (at_builtin; refine wpList_append_own _ rfl _ _ 27 rfl w.heap.size 32 i0 (.agg #[.int .i64 0, .int .i64 0]) 2 16 Tryz.underlying27 HI.out HZ0.out HZ1.out HZ2.out rfl (by decide) _ _ _ rfl Hown.out ⟨w2.heap.size, 0, none⟩ 1 1 [.int .i64 N, .int .i64 D] rfl rfl ?c1 ?c2 ?c3 ?c4 ?c5 ?_)
   case c1 =>
    intro j u hj
    match j, hj with
    | 0, hj => simp at hj; subst hj; simp [Addr.add]
    | 1, hj => simp at hj; subst hj; simp [Addr.add]
   case c2 => intro u hu; simp at hu; rcases hu with rfl | rfl <;> rfl
   case c3 => unfold maxLen; omega
   case c4 => omega
   case c5 => simp; omega
   intro v' w3 hown' hgrow _
   have hne := Hown.out.lt
   have HX2 : Hid (SomeRats p a len cap w (k + 1) v' w3) := by
    refine ⟨xs ++ [(N, D)], by rw [List.length_append, HL.out]; rfl, OwnRats.more (x := (N, D)) hown', (HC2.out.alloc _).grown hgrow (fun e => by have := (hne p e).1; omega), (HOn2.out.alloc (by omega) _).grown (by omega) hgrow (fun g hg => (hne g hg).1)⟩
   clear hown' hgrow hne
   go_wp2_with fail
   go_roundw
   case rel => exact ⟨k + 1, by omega, by go_num, HX2⟩
   case measure => simp [intOf]; omega
  ·
   have he : k = n := by omega
   have HX2 : Hid (SomeRats p a len cap w n u5 wr) := by rw [← he]; exact hX
   clear he
   go_wp2_with fail
   go_ret
   obtain ⟨xs, h1, h2, h3, h4⟩ := HX2.out
   exact ⟨_, xs, rfl, h1, h2, h3, h4⟩
theorem spec_l4DrawI (B p n : Nat) (x : Int) (hx : x = n) (hn : n ≤ 1000) (a : Option Addr) (len cap : Nat) (w : World) (hB : B ≤ p) (hcur : Cur w p a len cap) (hcode : CodeAt B w a len) :
  Calls Tryz.prog 50 #[.pointer (some ⟨p, 0, none⟩), .int .i64 x] w (DrewRats n p a len cap w) := by
 subst hx
 exact spec_l4Draw B p n hn a len cap w hB hcur hcode
def lenL : List Int := [0, 0, 0, 1]
theorem lenL_cells : (lenL.map (Value.int .i64)).toArray = #[.int .i64 0, .int .i64 0, .int .i64 0, .int .i64 1] := rfl
theorem lenL_nat {x : Int} (h : x ∈ lenL) : ∃ m : Nat, x = m ∧ m ≤ 1 := by
 simp [lenL] at h
 rcases h with rfl | rfl
 ·
  exact ⟨0, rfl, by omega⟩
 ·
  exact ⟨1, rfl, by omega⟩
def numL : List Int := [0, 5, -1000000000, 1000000001]
theorem numL_cells : (numL.map (Value.int .i64)).toArray = #[.int .i64 0, .int .i64 5, .int .i64 (-1000000000), .int .i64 1000000001] := rfl
end Go.Proofs.YtpidlmmpejoeaaaGreat
