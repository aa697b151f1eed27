/- The draws of chapter 4: whatever the code, a list of fractions (or of numbers) of at most four is drawn. -/
import Derived.Test.YtlaohlcghdbjhaaDoorRaDraw
import Derived.Test.YtlaohlcghdbjhaaDoorVeC3
import Derived.Test.YtlaohlcghdbjhaaDoorRow
import Derived.Laws.AppendOwn
namespace Go.Proofs.YtlaohlcghdbjhaaDoor
open Go.RowKit
open Ve (R)
theorem Only.grown {p : Nat} {a w w' : World} {row : Option Nat} (h : Only p a w) (hp : p ≤ a.heap.size) (hg : w.grownBy w' row) (hr : ∀ g, row = some g → a.heap.size ≤ g) : Only p a w' :=
  ⟨h.low.grown hg (Nat.le_trans hp h.low.size) (fun g e => Nat.le_trans hp (hr g e)), fun j h1 h2 => by
    rw [hg.block j (Nat.lt_of_lt_of_le h2 h.low.size) (fun e => by have := hr j e.symm; omega)]; exact h.high j h1 h2⟩
theorem Cur.grown {w w' : World} {p : Nat} {a : Option Addr} {len cap : Nat} {row : Option Nat} (h : Cur w p a len cap) (hg : w.grownBy w' row) (hr : row ≠ some p) : Cur w' p a len cap := by
  obtain ⟨i, x, h1, h2, hk⟩ := h
  exact ⟨i, x, h1, h2, (hg.block p (lt_of_block hk) (fun e => hr e.symm)).trans hk⟩
theorem OwnRats.only {B p : Nat} {w w' : World} {v : Value} {xs : List R} (h : OwnRats B w v xs) (ho : Only p w w') (hp : p < B) : OwnRats B w' v xs := by
  obtain ⟨h1, h2 | ⟨g, cap, cur, e, hg, hh, rest⟩⟩ := h
  · exact ⟨h1, .inl h2⟩
  · exact ⟨h1, .inr ⟨g, cap, cur, e, hg, (ho.block (by omega) (lt_of_at hh)).trans hh, rest⟩⟩
theorem OwnInts.only {B p : Nat} {w w' : World} {v : Value} {xs : List Int} (h : OwnInts B w v xs) (ho : Only p w w') (hp : p < B) : OwnInts B w' v xs := by
  obtain ⟨h1, h2 | ⟨g, cap, cur, e, hg, hh, rest⟩⟩ := h
  · exact ⟨h1, .inl h2⟩
  · exact ⟨h1, .inr ⟨g, cap, cur, e, hg, (ho.block (by omega) (lt_of_at hh)).trans hh, rest⟩⟩
/-- A list of n fractions has been drawn. -/
def DrewRats (n p : Nat) (a : Option Addr) (len cap : Nat) (w : World) (e : Ending) (w' : World) : Prop :=
  ∃ (v : Value) (xs : List R), e = .returned v ∧ xs.length = n ∧ OwnRats w.heap.size w' v xs ∧ Cur w' p a len cap ∧ Only p w w'
def SomeRats (p : Nat) (a : Option Addr) (len cap : Nat) (w : World) (k : Nat) (v : Value) (wr : World) : Prop :=
  ∃ xs : List R, xs.length = k ∧ OwnRats w.heap.size wr v xs ∧ Cur wr p a len cap ∧ Only p w wr
set_option maxRecDepth 100000 in
set_option maxHeartbeats 2000000 in
theorem spec_l4Draw (B p n : Nat) (hn : n ≤ 1000) (a : Option Addr) (len cap : Nat) (w : World) (hB : B ≤ p) (hcur : Cur w p a len cap) (hcode : CodeAt B w a len) :
    Calls Tryd.prog 26 #[.pointer (some ⟨p, 0, none⟩), .int .i64 n] w (DrewRats n p a len cap w) := by
  have hp := hcur.lt
  obtain ⟨i0, hi, hz0, hz1, hz2⟩ := info_parts info_rat
  have HI := Lib.hid hi
  have HZ0 := Lib.hid hz0
  have HZ1 := Lib.hid hz1
  have HZ2 := Lib.hid hz2
  have Hc := Lib.hid hcode
  have HX : Hid (SomeRats p a len cap w 0 (.slice (some ⟨w.heap.size, 0, none⟩) 0 0) (w.alloc (.cells #[] 26))) :=
    ⟨[], rfl, World.ownsRow_made w #[] 0 (Nat.le_refl _) (Nat.zero_le _) rfl, hcur.alloc _, (Only.refl p w).alloc (by omega) _⟩
  clear hi hz0 hz1 hz2 hcur hcode
  go_enter Tryd.func26, Tryd.ntmps26
  go_wp2_with fail
  go_loopw [5, 6] (fun v i wr => ∃ k : Nat, k ≤ n ∧ i = .int .i64 k ∧ Hid (SomeRats p a len cap w k v wr)) (fun _ i _ => n - (intOf i).toNat)
  case atStart => exact ⟨0, Nat.zero_le _, rfl, HX⟩
  case round =>
    obtain ⟨k, hk, rfl, hX⟩ := hrel
    by_cases hlt : k < n
    · obtain ⟨xs, hl, ho, hc, hO⟩ := hX.out
      have HO := Lib.hid ho
      have HC := Lib.hid hc
      have HOn := Lib.hid hO
      have hxl := Nat.le_of_eq hl
      have HL := Lib.hid hl
      clear hl ho hc hO
      go_wp2_with fail
      refine (spec_l3Draw B p a len cap wr hB HC.out (Hc.out.below (HOn.out.below hB))).mono ?_
      rintro e w2 ⟨N, D, rfl, hc2, ho2⟩
      have HC2 := Lib.hid hc2
      have HOn2 := Lib.hid (HOn.out.trans ho2)
      have hsz2 : w.heap.size ≤ w2.heap.size := HOn2.out.low.size
      have Hown := Lib.hid (World.ownsRow.alloc (HO.out.only ho2 hp) (.cells #[.int .i64 N, .int .i64 D] 26))
      clear hc2 ho2
      go_wp2_with (at_builtin; refine wpList_append_own _ rfl _ _ 24 rfl w.heap.size 26 i0 (.agg #[.int .i64 0, .int .i64 0]) 2 16 Tryd.underlying24 HI.out HZ0.out HZ1.out HZ2.out rfl (by decide) _ _ _ rfl Hown.out ⟨w2.heap.size, 0, none⟩ 1 1 [.int .i64 N, .int .i64 D] rfl rfl ?c1 ?c2 ?c3 ?c4 ?c5 ?_)
      case c1 =>
        intro j u hj
        match j, hj with
        | 0, hj => simp at hj; subst hj; simp [Addr.add]
        | 1, hj => simp at hj; subst hj; simp [Addr.add]
      case c2 => intro u hu; simp at hu; rcases hu with rfl | rfl <;> rfl
      case c3 => unfold maxLen; omega
      case c4 => omega
      case c5 => simp; omega
      intro v' w3 hown' hgrow _
      have hne := Hown.out.lt
      have HX2 : Hid (SomeRats p a len cap w (k + 1) v' w3) := by
        refine ⟨xs ++ [(N, D)], by rw [List.length_append, HL.out]; rfl, OwnRats.more (x := (N, D)) hown', (HC2.out.alloc _).grown hgrow (fun e => by have := (hne p e).1; omega), (HOn2.out.alloc (by omega) _).grown (by omega) hgrow (fun g hg => (hne g hg).1)⟩
      clear hown' hgrow hne
      go_wp2_with fail
      go_roundw
      case rel => exact ⟨k + 1, by omega, by go_num, HX2⟩
      case measure => simp [intOf]; omega
    · have he : k = n := by omega
      have HX2 : Hid (SomeRats p a len cap w n u5 wr) := by rw [← he]; exact hX
      clear he
      go_wp2_with fail
      go_ret
      obtain ⟨xs, h1, h2, h3, h4⟩ := HX2.out
      exact ⟨_, xs, rfl, h1, h2, h3, h4⟩
theorem spec_l4DrawI (B p n : Nat) (x : Int) (hx : x = n) (hn : n ≤ 1000) (a : Option Addr) (len cap : Nat) (w : World) (hB : B ≤ p) (hcur : Cur w p a len cap) (hcode : CodeAt B w a len) :
    Calls Tryd.prog 26 #[.pointer (some ⟨p, 0, none⟩), .int .i64 x] w (DrewRats n p a len cap w) := by
  subst hx
  exact spec_l4Draw B p n hn a len cap w hB hcur hcode
/-- One pick out of a list that is laid just ahead of it, and that it is of the list. -/
def PickedIn (ss : List Int) (p : Nat) (a : Option Addr) (len cap : Nat) (w : World) (e : Ending) (w' : World) : Prop :=
  ∃ x : Int, e = .returned (.int .i64 x) ∧ x ∈ ss ∧ Cur w' p a len cap ∧ Only p w w'
theorem pick_in (B p : Nat) (a : Option Addr) (len cap c2 : Nat) (ss : List Int) (cs : Array Value) (hcs : (ss.map (Value.int .i64)).toArray = cs) (m : Nat) (hm : ss.length = m) (hs1 : 1 ≤ ss.length) (hs2 : ss.length ≤ 1000000) (w : World) (hB : B ≤ p)
    (hcur : Cur w p a len cap) (hcode : CodeAt B w a len) (q : Nat) (hq : q = w.heap.size) :
    Calls Tryd.prog 28 #[.pointer (some ⟨p, 0, none⟩), .slice (some ⟨q, 0, none⟩) m c2] (w.alloc (.cells cs 3)) (PickedIn ss p a len cap w) := by
  subst hcs hm hq
  have hp := hcur.lt
  refine (spec_l1PickInt B p w.heap.size a len cap c2 ss hs1 hs2 _ hB (by omega) (by rw [size1]; omega) (ListAt.new w _ _) (hcur.alloc _) (hcode.below ((Below.refl _ _).alloc (by omega) _))).mono ?_
  rintro e w' ⟨v, rfl, hv, hc, ho⟩
  obtain ⟨x, hx, rfl⟩ := List.mem_map.1 hv
  exact ⟨x, rfl, hx, hc, ((Only.refl p w).alloc (by omega) _).trans ho⟩
def lenL : List Int := [0, 0, 0, 1]
theorem lenL_cells : (lenL.map (Value.int .i64)).toArray = #[.int .i64 0, .int .i64 0, .int .i64 0, .int .i64 1] := rfl
theorem lenL_nat {x : Int} (h : x ∈ lenL) : ∃ m : Nat, x = m ∧ m ≤ 1 := by
  simp [lenL] at h
  rcases h with rfl | rfl
  · exact ⟨0, rfl, by omega⟩
  · exact ⟨1, rfl, by omega⟩
def numL : List Int := [0, 5, -1000000000, 1000000001]
theorem numL_cells : (numL.map (Value.int .i64)).toArray = #[.int .i64 0, .int .i64 5, .int .i64 (-1000000000), .int .i64 1000000001] := rfl
def DrewNums (w : World) (e : Ending) (w' : World) : Prop := ∃ (v : Value) (zs : List Int), e = .returned v ∧ zs.length ≤ 3 ∧ OwnInts w.heap.size w' v zs ∧ Below w.heap.size w w'
def SomeNums (p : Nat) (a : Option Addr) (len cap : Nat) (w : World) (k : Nat) (v : Value) (wr : World) : Prop :=
  ∃ zs : List Int, zs.length = k ∧ OwnInts (w.heap.size + 1) wr v zs ∧ Cur wr p a len cap ∧ Below w.heap.size w wr ∧ w.heap.size + 1 ≤ wr.heap.size
set_option maxRecDepth 100000 in
set_option maxHeartbeats 2000000 in
theorem spec_DrawIntsToRats (a : Option Addr) (len cap : Nat) (w : World) (hcode : CodeAt w.heap.size w a len) :
    Calls Tryd.prog 13 #[.slice a len cap] w (DrewNums w) := by
  obtain ⟨i0, hi, hz0, hz1, hz2⟩ := info_parts info_int
  have HI := Lib.hid hi
  have HZ0 := Lib.hid hz0
  have HZ1 := Lib.hid hz1
  have HZ2 := Lib.hid hz2
  have Hc := Lib.hid hcode
  clear hi hz0 hz1 hz2 hcode
  go_enter Tryd.func13, Tryd.ntmps13
  go_wp2_with fail
  refine (spec_l1New w.heap.size a len cap w Hc.out).mono ?_
  rintro e w1 ⟨rfl, hc1, hb1, hsz1⟩
  have HU1 := Lib.hid (hc1.alloc (.cells #[] 3))
  have Hb1 := Lib.hid (hb1.alloc hb1.size (.cells #[] 3))
  have hz1 : w1.heap.size = w.heap.size + 1 := by omega
  have HO1 : Hid (OwnInts (w.heap.size + 1) (w1.alloc (.cells #[] 3)) (.slice (some ⟨w1.heap.size, 0, none⟩) 0 0) []) := World.ownsRow_made w1 #[] 0 (by omega) (Nat.zero_le _) rfl
  have hz2 : w.heap.size + 1 ≤ w1.heap.size := by omega
  clear hc1 hb1 hsz1 hz1
  go_wp2_with fail
  refine (spec_l1Below w.heap.size w.heap.size a len cap 4 (by decide) (by decide) _ (Nat.le_refl _) HU1.out (Hc.out.below Hb1.out)).mono ?_
  rintro e w2 ⟨x, rfl, hx0, hx1, hc2, ho2⟩
  obtain ⟨n, rfl⟩ : ∃ n : Nat, x = n := ⟨x.toNat, by omega⟩
  have hn : n ≤ 3 := by omega
  have HX : Hid (SomeNums w.heap.size a len cap w 0 (.slice (some ⟨w1.heap.size, 0, none⟩) 0 0) w2) :=
    ⟨[], rfl, HO1.out.only ho2 (by omega), hc2, Hb1.out.trans (ho2.below (Nat.le_refl _)), by have := ho2.low.size; rw [size1] at this; omega⟩
  clear hc2 ho2 hx0 hx1 HU1 Hb1 HO1 hz2
  go_wp2_with fail
  go_loopw [4, 6] (fun v i wr => ∃ k : Nat, k ≤ n ∧ i = .int .i64 k ∧ Hid (SomeNums w.heap.size a len cap w k v wr)) (fun _ i _ => n - (intOf i).toNat)
  case atStart => exact ⟨0, Nat.zero_le _, rfl, HX⟩
  case round =>
    obtain ⟨k, hk, rfl, hX⟩ := hrel
    by_cases hlt : k < n
    · obtain ⟨zs, hl, ho, hc, hb, hz⟩ := hX.out
      have HO := Lib.hid ho
      have HC := Lib.hid hc
      have HB := Lib.hid hb
      have hzl := Nat.le_of_eq hl
      have HL := Lib.hid hl
      clear hl ho hc hb
      go_wp2_with fail
      refine (pick_in w.heap.size w.heap.size a len cap 4 numL _ numL_cells 4 rfl (by decide) (by decide) _ (Nat.le_refl _) HC.out (Hc.out.below HB.out) _ (by simp)).mono ?_
      rintro e w3 ⟨y, rfl, -, hc3, ho3⟩
      have HC3 := Lib.hid hc3
      have HB3 := Lib.hid (HB.out.trans (ho3.below (Nat.le_refl _)))
      have hsz3 : w.heap.size + 1 ≤ w3.heap.size := Nat.le_trans hz ho3.low.size
      have Hown := Lib.hid (World.ownsRow.alloc (HO.out.only ho3 (by omega)) (.cells #[.int .i64 y] 3))
      clear hc3 ho3
      go_wp2_with (at_builtin; refine wpList_append_own _ rfl _ _ 35 rfl (w.heap.size + 1) 3 i0 (.int .i64 0) 1 8 Tryd.underlying35 HI.out HZ0.out HZ1.out HZ2.out rfl (by decide) _ _ _ rfl Hown.out ⟨w3.heap.size, 0, none⟩ 1 1 [.int .i64 y] rfl rfl ?c1 ?c2 ?c3 ?c4 ?c5 ?_)
      case c1 =>
        intro j u hj
        match j, hj with
        | 0, hj => simp at hj; subst hj; simp [Addr.add]
      case c2 => intro u hu; simp at hu; subst hu; rfl
      case c3 => unfold maxLen; omega
      case c4 => omega
      case c5 => simp; omega
      intro v' w4 hown' hgrow _
      have hne := Hown.out.lt
      have HX2 : Hid (SomeNums w.heap.size a len cap w (k + 1) v' w4) :=
        ⟨zs ++ [y], by rw [List.length_append, HL.out]; rfl, OwnInts.more hown', (HC3.out.alloc _).grown hgrow (fun e => by have := (hne w.heap.size e).1; omega),
          (HB3.out.alloc HB3.out.size _).grown hgrow (by simp; omega) (fun g hg => by have := (hne g hg).1; omega), by have := hgrow.size; rw [size1] at this; omega⟩
      clear hown' hgrow hne
      go_wp2_with fail
      go_roundw
      case rel => exact ⟨k + 1, by omega, by go_num, HX2⟩
      case measure => simp [intOf]; omega
    · have he : k = n := by omega
      clear he
      go_wp2_with fail
      go_ret
      obtain ⟨zs, h1, h2, h3, h4, h5⟩ := hX.out
      exact ⟨_, zs, rfl, by omega, ⟨h2.1, h2.2.imp id (fun ⟨g, cap, cur, e, hg, rest⟩ => ⟨g, cap, cur, e, by omega, rest⟩)⟩, h4⟩
end Go.Proofs.YtlaohlcghdbjhaaDoor
