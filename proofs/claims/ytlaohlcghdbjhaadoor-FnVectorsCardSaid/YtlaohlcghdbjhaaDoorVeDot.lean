/- impl's DotRat. -/
import Derived.Test.YtlaohlcghdbjhaaDoorVeIt2
namespace Go.Proofs.YtlaohlcghdbjhaaDoor
open Go.RowKit Go.Shelf
open Ve (R)
attribute [local go_sem] Oper.semAt_some

theorem impl_products (a1 a2 : Option Addr) (n1 n2 c1 c2 : Nat) (w : World) : Calls Tryd.prog 34 #[.slice a1 n1 c1, .slice a2 n2 c2] w fun e w' =>
    e = .returned (.func (.func 52) #[] #[.pointer (some ⟨w.heap.size, 0, none⟩), .pointer (some ⟨w.heap.size + 1, 0, none⟩)]) ∧ (w.alloc (.cells #[.slice a1 n1 c1] 24)).alloc (.cells #[.slice a2 n2 c2] 24) = w' := by
  go_enter Tryd.func34, Tryd.ntmps34
  go_wp2_with fail
  go_ret
  exact ⟨rfl, rfl⟩
/-- Sums, from the first on. -/
def accP (l : List R) : R × Bool := l.foldl (fun s p => (Ve.addR s.1 p, Ve.addK s.1 p)) ((0, 1), true)
theorem accP_snoc (l : List R) (x : R) : accP (l ++ [x]) = (Ve.addR (accP l).1 x, Ve.addK (accP l).1 x) := by unfold accP; rw [List.foldl_append]; rfl
theorem accP_seq (xs ys : List R) : ∀ k, accP (seqF (pr xs ys) k) = Ve.acc xs ys k
  | 0 => rfl
  | k + 1 => by rw [seqF_succ, accP_snoc, accP_seq xs ys k, Ve.acc_succ]; rfl
/-- What lay below B, and is not turned, lies on through a turn of a block from B on. -/
theorem from_at {W W' : World} {row : Option Nat} {B p : Nat} {ob : Obj} (h : W.heap[p]? = some ob) (hp : p < B) (hg : W.grownBy W' row) (hr : ∀ r, row = some r → B ≤ r ∧ ∃ o : Obj, W.heap[r]? = some o ∧ o.isCells = false) : W'.heap[p]? = some ob :=
  (hg.block p (lt_of_at h) (fun e => by have := (hr p e.symm).1; omega)).trans h
theorem from_cells {W W' : World} {row : Option Nat} {B p : Nat} {cs : Array Value} {t : TypeId} {f : Nat × Nat} (h : W.heap[p]? = some (.cells cs t f)) (hg : W.grownBy W' row) (hr : ∀ r, row = some r → B ≤ r ∧ ∃ o : Obj, W.heap[r]? = some o ∧ o.isCells = false) : W'.heap[p]? = some (.cells cs t f) :=
  (hg.block p (lt_of_at h) (fun e => by obtain ⟨_, o, ho, hc⟩ := hr p e.symm; rw [h] at ho; cases ho; cases hc)).trans h
theorem keeps_below {W W' : World} (h : Below W.heap.size W W') : KeepsOthers W W' := ⟨h.size, fun k _ hk _ => (h.block k (lt_of_at hk)).trans hk⟩
theorem put_at {W : World} {p D : Nat} {o o1 o2 : Obj} (h : W.heap[p]? = some o) (hK : W.heap[D]? = some o1) (hne : o1 ≠ o) : (W.putObj D o2).heap[p]? = some o :=
  ((grownBy_putObj' W D o2).block p (lt_of_at h) (fun e => by cases e; rw [h] at hK; exact hne (Option.some.inj hK).symm)).trans h
theorem KeepR.setCell {n₀ lo hi : Nat} {W W1 : World} (h : KeepR n₀ lo hi W W1) (b i : Nat) (u : Value) (h1 : n₀ ≤ b) (h2 : b < lo ∨ hi ≤ b) : KeepR n₀ lo hi W (W1.setCell ⟨b, i, none⟩ u) :=
  ⟨h.low.setCell (p := ⟨b, i, none⟩) h1 u, fun k a c => by rw [Below.heap_setCell _ _ _ _ (show k ≠ b by omega)]; exact h.mid k a c⟩
/-- DotRat's four variables: the sum, whether it fits, the two results. -/
structure DotW (w : World) (s : R) (k : Bool) (W : World) : Prop where
  sum : BoxAt W (w.heap.size + 1 + 1) s
  fits : Boxed W (w.heap.size + 1 + 1 + 1) 4 (.bool k)
  res : BoxAt W w.heap.size (0, 0)
  ok : Boxed W (w.heap.size + 1) 4 (.bool false)
  low : Below w.heap.size w W
  big : w.heap.size + 6 ≤ W.heap.size
theorem DotW.grown {w : World} {s : R} {k : Bool} {W W' : World} {row : Option Nat} {B : Nat} (h : DotW w s k W) (hB : w.heap.size + 4 ≤ B) (hg : W.grownBy W' row) (hr : ∀ r, row = some r → B ≤ r ∧ ∃ o : Obj, W.heap[r]? = some o ∧ o.isCells = false) : DotW w s k W' :=
  ⟨from_at h.sum (by omega) hg hr, from_at h.fits (by omega) hg hr, from_at h.res (by omega) hg hr, from_at h.ok (by omega) hg hr, h.low.grown hg h.low.size (fun r e => by have := (hr r e).1; omega), Nat.le_trans h.big hg.size⟩
theorem DotW.below {w : World} {s : R} {k : Bool} {W W' : World} (h : DotW w s k W) (hb : Below W.heap.size W W') : DotW w s k W' :=
  ⟨h.sum.below hb, (hb.block _ h.fits.lt).trans h.fits, h.res.below hb, (hb.block _ h.ok.lt).trans h.ok, h.low.trans (hb.mono h.low.size), Nat.le_trans h.big hb.size⟩
theorem DotW.set {w : World} {s : R} {k : Bool} {W : World} (h : DotW w s k W) (s' : R) (k' : Bool) :
    DotW w s' k' (((W.setCell ⟨w.heap.size + 1 + 1, 0, none⟩ (.int .i64 s'.1)).setCell ⟨w.heap.size + 1 + 1, 1, none⟩ (.int .i64 s'.2)).setCell ⟨w.heap.size + 1 + 1 + 1, 0, none⟩ (.bool k')) := by
  refine ⟨?_, ?_, ?_, ?_, ?_, ?_⟩
  · unfold BoxAt
    rw [Below.heap_setCell _ _ _ _ (show w.heap.size + 1 + 1 ≠ w.heap.size + 1 + 1 + 1 by omega)]
    exact h.sum.set s'
  · refine Boxed.set _ (v := .bool k) ?_
    unfold Boxed
    rw [Below.heap_setCell _ _ _ _ (show w.heap.size + 1 + 1 + 1 ≠ w.heap.size + 1 + 1 by omega), Below.heap_setCell _ _ _ _ (show w.heap.size + 1 + 1 + 1 ≠ w.heap.size + 1 + 1 by omega)]
    exact h.fits
  · unfold BoxAt
    rw [Below.heap_setCell _ _ _ _ (show w.heap.size ≠ w.heap.size + 1 + 1 + 1 by omega), Below.heap_setCell _ _ _ _ (show w.heap.size ≠ w.heap.size + 1 + 1 by omega), Below.heap_setCell _ _ _ _ (show w.heap.size ≠ w.heap.size + 1 + 1 by omega)]
    exact h.res
  · unfold Boxed
    rw [Below.heap_setCell _ _ _ _ (show w.heap.size + 1 ≠ w.heap.size + 1 + 1 + 1 by omega), Below.heap_setCell _ _ _ _ (show w.heap.size + 1 ≠ w.heap.size + 1 + 1 by omega), Below.heap_setCell _ _ _ _ (show w.heap.size + 1 ≠ w.heap.size + 1 + 1 by omega)]
    exact h.ok
  · exact ((h.low.setCell (p := ⟨w.heap.size + 1 + 1, 0, none⟩) (by show w.heap.size ≤ w.heap.size + 1 + 1; omega) _).setCell (p := ⟨w.heap.size + 1 + 1, 1, none⟩) (by show w.heap.size ≤ w.heap.size + 1 + 1; omega) _).setCell (p := ⟨w.heap.size + 1 + 1 + 1, 0, none⟩) (by show w.heap.size ≤ w.heap.size + 1 + 1 + 1; omega) _
  · simpa [World.setCell] using h.big
theorem DotW.zero {w : World} {s : R} {k : Bool} {W : World} (h : DotW w s k W) :
    DotW w s k (((W.setCell ⟨w.heap.size, 0, none⟩ (.int .i64 0)).setCell ⟨w.heap.size, 1, none⟩ (.int .i64 0)).setCell ⟨w.heap.size + 1, 0, none⟩ (.bool false)) := by
  refine ⟨?_, ?_, ?_, ?_, ?_, ?_⟩
  · unfold BoxAt
    rw [Below.heap_setCell _ _ _ _ (show w.heap.size + 1 + 1 ≠ w.heap.size + 1 by omega), Below.heap_setCell _ _ _ _ (show w.heap.size + 1 + 1 ≠ w.heap.size by omega), Below.heap_setCell _ _ _ _ (show w.heap.size + 1 + 1 ≠ w.heap.size by omega)]
    exact h.sum
  · unfold Boxed
    rw [Below.heap_setCell _ _ _ _ (show w.heap.size + 1 + 1 + 1 ≠ w.heap.size + 1 by omega), Below.heap_setCell _ _ _ _ (show w.heap.size + 1 + 1 + 1 ≠ w.heap.size by omega), Below.heap_setCell _ _ _ _ (show w.heap.size + 1 + 1 + 1 ≠ w.heap.size by omega)]
    exact h.fits
  · unfold BoxAt
    rw [Below.heap_setCell _ _ _ _ (show w.heap.size ≠ w.heap.size + 1 by omega)]
    exact h.res.set (0, 0)
  · refine Boxed.set _ (v := .bool false) ?_
    unfold Boxed
    rw [Below.heap_setCell _ _ _ _ (show w.heap.size + 1 ≠ w.heap.size by omega), Below.heap_setCell _ _ _ _ (show w.heap.size + 1 ≠ w.heap.size by omega)]
    exact h.ok
  · exact ((h.low.setCell (p := ⟨w.heap.size, 0, none⟩) (Nat.le_refl _) _).setCell (p := ⟨w.heap.size, 1, none⟩) (Nat.le_refl _) _).setCell (p := ⟨w.heap.size + 1, 0, none⟩) (by show w.heap.size ≤ w.heap.size + 1; omega) _
  · simpa [World.setCell] using h.big
set_option maxRecDepth 100000 in
set_option maxHeartbeats 8000000 in
theorem impl_DotRat_same (B : Nat) (a1 a2 : Option Addr) (c1 c2 : Nat) (xs ys : List R) (hl : xs.length = ys.length) (hn : xs.length ≤ 1048576) (w : World) (hBw : B ≤ w.heap.size) (h1 : RatsIn B w a1 xs) (h2 : RatsIn B w a2 ys) :
    CallsIn Fence.wide 3 Tryd.prog 10 #[.slice a1 xs.length c1, .slice a2 ys.length c2] w (OneRat (Ve.dotR xs ys) (Ve.dotK xs ys) w) := by
  have H1 := Lib.hid (h1.mono hBw)
  have H2 := Lib.hid (h2.mono hBw)
  have HL := Lib.hid hl
  clear h1 h2
  have b0 := (((((BoxAt.new w (0, 0)).alloc (.cells #[.bool false] 4)).alloc (.cells #[.int .i64 0, .int .i64 1] 26)).alloc (.cells #[.bool true] 4)).alloc (.cells #[.slice a1 xs.length c1] 24)).alloc (.cells #[.slice a2 xs.length c2] 24)
  have b1 := ((((Boxed.new (w.alloc (.cells #[.int .i64 0, .int .i64 0] 26)) 4 (.bool false)).alloc (.cells #[.int .i64 0, .int .i64 1] 26)).alloc (.cells #[.bool true] 4)).alloc (.cells #[.slice a1 xs.length c1] 24)).alloc (.cells #[.slice a2 xs.length c2] 24)
  have b2 := (((BoxAt.new ((w.alloc (.cells #[.int .i64 0, .int .i64 0] 26)).alloc (.cells #[.bool false] 4)) (0, 1)).alloc (.cells #[.bool true] 4)).alloc (.cells #[.slice a1 xs.length c1] 24)).alloc (.cells #[.slice a2 xs.length c2] 24)
  have b3 := ((Boxed.new (((w.alloc (.cells #[.int .i64 0, .int .i64 0] 26)).alloc (.cells #[.bool false] 4)).alloc (.cells #[.int .i64 0, .int .i64 1] 26)) 4 (.bool true)).alloc (.cells #[.slice a1 xs.length c1] 24)).alloc (.cells #[.slice a2 xs.length c2] 24)
  have b4 := (Boxed.new ((((w.alloc (.cells #[.int .i64 0, .int .i64 0] 26)).alloc (.cells #[.bool false] 4)).alloc (.cells #[.int .i64 0, .int .i64 1] 26)).alloc (.cells #[.bool true] 4)) 24 (.slice a1 xs.length c1)).alloc (.cells #[.slice a2 xs.length c2] 24)
  have b5 := Boxed.new (((((w.alloc (.cells #[.int .i64 0, .int .i64 0] 26)).alloc (.cells #[.bool false] 4)).alloc (.cells #[.int .i64 0, .int .i64 1] 26)).alloc (.cells #[.bool true] 4)).alloc (.cells #[.slice a1 xs.length c1] 24)) 24 (.slice a2 xs.length c2)
  have hB0 : Below w.heap.size w ((((((w.alloc (.cells #[.int .i64 0, .int .i64 0] 26)).alloc (.cells #[.bool false] 4)).alloc (.cells #[.int .i64 0, .int .i64 1] 26)).alloc (.cells #[.bool true] 4)).alloc (.cells #[.slice a1 xs.length c1] 24)).alloc (.cells #[.slice a2 xs.length c2] 24)) := by (repeat' (first | exact Below.refl _ _ | exact Nat.le_refl _ | refine Below.setCell ?_ ?_ _ | refine Below.alloc ?_ ?_ _ | refine below_drewN ?_ _ | refine Below.drew ?_ | (simp; done) | (simp; omega)))
  have hsz : ((((((w.alloc (.cells #[.int .i64 0, .int .i64 0] 26)).alloc (.cells #[.bool false] 4)).alloc (.cells #[.int .i64 0, .int .i64 1] 26)).alloc (.cells #[.bool true] 4)).alloc (.cells #[.slice a1 xs.length c1] 24)).alloc (.cells #[.slice a2 xs.length c2] 24)).heap.size = w.heap.size + 6 := by simp only [World.size_alloc]
  simp only [World.size_alloc] at b0 b1 b2 b3 b4 b5
  rw [← hl]
  refine callsIn_of_wp_marks Tryd.func10 rfl trivial ?_ rfl
  simp only [Tryd.ntmps10, List.size_toArray, List.length_cons, List.length_nil, Nat.reduceAdd, Nat.reduceSub, Array.replicate_succ, Array.replicate_zero, List.push_toArray, List.append_toArray, List.nil_append, List.cons_append]
  have HB := Lib.hid (And.intro b0 (And.intro b1 (And.intro b2 (And.intro b3 (And.intro b4 (And.intro b5 (And.intro hB0 hsz)))))))
  clear b0 b1 b2 b3 b4 b5 hB0 hsz hl
  gi_wp2_with fail
  refine ⟨trivial, (callsIn_wide.2 (impl_products _ _ _ _ _ _ _)).mono ?_⟩
  rintro e w1 ⟨rfl, rfl⟩
  gi_wp2_with fail
  obtain ⟨W0, hW0⟩ : ∃ W0, ((((((w.alloc (.cells #[.int .i64 0, .int .i64 0] 26)).alloc (.cells #[.bool false] 4)).alloc (.cells #[.int .i64 0, .int .i64 1] 26)).alloc (.cells #[.bool true] 4)).alloc (.cells #[.slice a1 xs.length c1] 24)).alloc (.cells #[.slice a2 xs.length c2] 24)) = W0 := ⟨_, rfl⟩
  rw [hW0] at HB ⊢
  clear hW0
  obtain ⟨b0, b1, b2, b3, b4, b5, hB0, hsz⟩ := HB.out
  clear HB
  have hDW : DotW w (0, 1) true W0 := ⟨b2, b3, b0, b1, hB0, by omega⟩
  refine wpIn_rangeFunc_ownH (F := Fence.wide) rfl (by omega) (gf := 52) (lb := #[.pointer (some ⟨w.heap.size + 1 + 1 + 1 + 1, 0, none⟩), .pointer (some ⟨w.heap.size + 1 + 1 + 1 + 1 + 1, 0, none⟩)]) rfl trivial (enters_of Tryd.func52 (by kernel_rfl) rfl)
    (encs := encR) (Kp := KeepR w.heap.size (w.heap.size + 4) (w.heap.size + 6)) (S := fun zs => zs = seqF (pr xs ys) xs.length) (Sp := fun pre => ∃ k, k ≤ xs.length ∧ pre = seqF (pr xs ys) k) (N := xs.length) (w0 := W0)
    (fun l J Jx W hW hJ hJx hY h0 => products1 2 (by omega) l (w.heap.size + 1 + 1 + 1 + 1) (w.heap.size + 1 + 1 + 1 + 1 + 1) w.heap.size (w.heap.size + 4) (w.heap.size + 6) a1 a2 c1 c2 xs ys (by have := HL.out; omega) (by have := HL.out; omega) W.heap.size J Jx hJ hY W
      (by have := hW.size; omega) (by have := hW.size; omega) (by omega) (by omega) (by omega) (by omega) ((hW.cell (p := ⟨_, 0, none⟩) b4.lt).trans b4.cell) (by have := (hW.cell (p := ⟨_, 0, none⟩) b5.lt).trans b5.cell; rw [HL.out] at this; exact this)
      (H1.out.below (hB0.trans (hW.mono (by omega)))) (H2.out.below (hB0.trans (hW.mono (by omega)))) h0)
    KeepR.trans (keepR_b (by omega) (by omega)) (Below.refl _ _) (fun _ => rfl)
    (fun pre W => DotW w (accP pre).1 true W ∧ (accP pre).2 = true)
    (fun c pre W => c = .ret ∧ (∃ s, DotW w s false W) ∧ (accP pre).2 = false)
    (fun pre W W' row hs hg hr => ⟨hs.1.grown (by omega) hg hr, hs.2⟩)
    (fun c pre W W' row hs hg hr => ⟨hs.1, hs.2.1.imp (fun s h => h.grown (by omega) hg hr), hs.2.2⟩)
    ⟨hDW, rfl⟩
    (fun x a' W => ∃ Bx, w.heap.size + 6 ≤ Bx ∧ BoxAt W Bx x ∧ a' = { tmps := #[.slice a1 xs.length c1, .slice a2 xs.length c2, undef, undef, .pointer (some ⟨w.heap.size, 0, none⟩), .pointer (some ⟨w.heap.size + 1, 0, none⟩), .pointer (some ⟨w.heap.size + 1 + 1, 0, none⟩), .pointer (some ⟨w.heap.size + 1 + 1 + 1, 0, none⟩), .pointer (some ⟨Bx, 0, none⟩), .slice a1 xs.length c1, .int .i64 xs.length, .slice a2 xs.length c2, .int .i64 xs.length, .bool false, undef, .agg #[.int .i64 0, .int .i64 1], .slice a1 xs.length c1, .slice a2 xs.length c2, .func (.func 52) #[] #[.pointer (some ⟨w.heap.size + 1 + 1 + 1 + 1, 0, none⟩), .pointer (some ⟨w.heap.size + 1 + 1 + 1 + 1 + 1, 0, none⟩)], .agg #[.int .i64 x.1, .int .i64 x.2], undef, undef, undef, undef, undef, undef, undef, undef, undef, undef], defers := [] })
    (fun x a' _ X Y row hs hg hr => by obtain ⟨Bx, h1, h2, h3⟩ := hs; exact ⟨Bx, h1, from_cells h2 hg hr, h3⟩)
    ?assign ?body ?done ?stop
  case assign =>
    rintro l pre x W K ⟨hD, hA⟩ hK
    have hws := hD.low.size
    have hfl := hD.fits.lt
    have hbg := hD.big
    dsimp only [encR]
    gi_wp2
    exact hK _ _ ((KeepsOthers.alloc _ _).from _) (KeepR.of_below ((Below.refl _ _).alloc (Nat.le_refl _) _) hws hbg) ⟨hD.below ((Below.refl _ _).alloc (Nat.le_refl _) _), hA⟩ ⟨W.heap.size, hbg, BoxAt.new W x, rfl⟩
  case body =>
    rintro l pre x a' W hl _ ⟨hD, hA⟩ ⟨Bx, hBx, bX, rfl⟩ hlt
    have hA2 := Lib.hid hA
    have hws := hD.low.size
    have hbg := hD.big
    have HD := Lib.hid hD
    have HX := Lib.hid bX
    have HS := Lib.hid (accP_snoc pre x)
    obtain ⟨s0, s1, sf0, sf1⟩ := hD.sum.four
    obtain ⟨x0, x1, -, -⟩ := bX.four
    generalize (accP pre).1 = s at *
    clear hA hD bX
    gi_wp2_with fail
    refine ⟨trivial, (CallsIn.inRound l (callsIn_wide.2 (impl_add s x _))).mono ?_⟩
    rintro e w2 ⟨rfl, hb2⟩
    have HK2 := Lib.hid (keeps_below hb2)
    have HR2 := Lib.hid (KeepR.of_below (lo := w.heap.size + 4) (hi := w.heap.size + 6) hb2 hws hbg)
    have HD2 := Lib.hid (HD.out.below hb2)
    obtain ⟨s0, s1, sf0, sf1⟩ := HD2.out.sum.four
    have g0 := HD2.out.fits.cell
    have g1 := HD2.out.fits.frozen
    have r0 := HD2.out.res.four.1
    have r1 := HD2.out.res.four.2.1
    have rf0 := HD2.out.res.four.2.2.1
    have rf1 := HD2.out.res.four.2.2.2
    have k0 := HD2.out.ok.cell
    have k1 := HD2.out.ok.frozen
    clear hb2
    generalize Ve.addR s x = A at *
    generalize Ve.addK s x = ak at *
    cases ak with
    | true =>
      gi_wp2_with fail
      exact ⟨(((HK2.out.trans (KeepsOthers.setCell _ _ _)).trans (KeepsOthers.setCell _ _ _)).trans (KeepsOthers.setCell _ _ _)).from _,
        ((HR2.out.setCell _ _ _ (by omega) (by omega)).setCell _ _ _ (by omega) (by omega)).setCell _ _ _ (by omega) (by omega), by show DotW w (accP (pre ++ [x])).1 true _ ∧ (accP (pre ++ [x])).2 = true; rw [HS.out]; exact ⟨HD2.out.set A true, rfl⟩⟩
    | false =>
      gi_wp2_with fail
      exact ⟨((((((HK2.out.trans (KeepsOthers.setCell _ _ _)).trans (KeepsOthers.setCell _ _ _)).trans (KeepsOthers.setCell _ _ _)).trans (KeepsOthers.setCell _ _ _)).trans (KeepsOthers.setCell _ _ _)).trans (KeepsOthers.setCell _ _ _)).from _,
        rfl, ⟨A, (HD2.out.set A false).zero⟩, by show (accP (pre ++ [x])).2 = false; rw [HS.out]⟩
  case done =>
    rintro D zs W hDl rfl ⟨hD, hA⟩ hK
    rw [accP_seq] at hD hA
    have hE := Ve.dot_same HL.out
    rw [hA] at hE
    have HE1 := Lib.hid hE.1
    have HE2 := Lib.hid hE.2
    generalize (Ve.acc xs ys xs.length).1 = s at *
    have HD := Lib.hid hD
    have HK := Lib.hid hK
    obtain ⟨s0, s1, -, -⟩ := hD.sum.four
    obtain ⟨r0, r1, rf0, rf1⟩ := hD.res.four
    have k0 := hD.ok.cell
    have k1 := hD.ok.frozen
    clear hD hA hE hK
    gi_wp2_with fail
    obtain ⟨W2, hW2⟩ : ∃ W2, (((W.setCell ⟨w.heap.size, 0, none⟩ (.int .i64 s.1)).setCell ⟨w.heap.size, 1, none⟩ (.int .i64 s.2)).setCell ⟨w.heap.size + 1, 0, none⟩ (.bool true)) = W2 := ⟨_, rfl⟩
    have q0 : BoxAt W2 w.heap.size s := by
      rw [← hW2]; unfold BoxAt
      rw [Below.heap_setCell _ _ _ _ (show w.heap.size ≠ w.heap.size + 1 by omega)]
      exact HD.out.res.set s
    have q1 : Boxed W2 (w.heap.size + 1) 4 (.bool true) := by
      rw [← hW2]
      refine Boxed.set _ (v := .bool false) ?_
      unfold Boxed
      rw [Below.heap_setCell _ _ _ _ (show w.heap.size + 1 ≠ w.heap.size by omega), Below.heap_setCell _ _ _ _ (show w.heap.size + 1 ≠ w.heap.size by omega)]
      exact HD.out.ok
    have hK2 : W2.heap[D]? = some (.deferred (some [])) := by
      rw [← hW2]; exact (((KeepsOthers.setCell _ _ _).trans (KeepsOthers.setCell _ _ _)).trans (KeepsOthers.setCell _ _ _)).same D _ HK.out rfl
    have hB2 : Below w.heap.size w W2 := by
      rw [← hW2]; exact ((HD.out.low.setCell (p := ⟨w.heap.size, 0, none⟩) (Nat.le_refl _) _).setCell (p := ⟨w.heap.size, 1, none⟩) (Nat.le_refl _) _).setCell (p := ⟨w.heap.size + 1, 0, none⟩) (by show w.heap.size ≤ w.heap.size + 1; omega) _
    rw [hW2]
    have z0 := cells2_of (put_at (o2 := .deferred none) q0 hK2 (by simp))
    have z1 := Boxed.cell (put_at (o2 := .deferred none) q1 hK2 (by simp))
    refine ⟨by simp, .inl ⟨_, _, rfl, run_takeDeferred hK2, ?_⟩⟩
    exact ⟨.tuple #[.agg #[.int .i64 s.1, .int .i64 s.2], .bool true], by simp [results, Tryd.results10, go_sem, z0.1, z0.2.1, z1], by rw [HE1.out, HE2.out]; exact ⟨rfl, hB2.trans (belowK_b (w := w) (Nat.le_refl _) W2 D _ _ (by omega) hK2 rfl rfl)⟩⟩
  case stop =>
    rintro D c pre W hDl ⟨k, hk, rfl⟩ ⟨rfl, ⟨s, hD⟩, hA⟩ hK
    rw [accP_seq] at hA
    have hE := Ve.dot_cut HL.out hk hA
    have HE1 := Lib.hid hE.1
    have HE2 := Lib.hid hE.2
    have HD := Lib.hid hD
    have HK := Lib.hid hK
    clear hD hA hE hK
    gi_wp2_with fail
    have z0 := cells2_of (put_at (o2 := .deferred none) HD.out.res HK.out (by simp))
    have z1 := Boxed.cell (put_at (o2 := .deferred none) HD.out.ok HK.out (by simp))
    refine ⟨by simp, .inl ⟨_, _, rfl, run_takeDeferred HK.out, ?_⟩⟩
    exact ⟨.tuple #[.agg #[.int .i64 0, .int .i64 0], .bool false], by simp [results, Tryd.results10, go_sem, z0.1, z0.2.1, z1], by rw [HE1.out, HE2.out]; exact ⟨rfl, HD.out.low.trans (belowK_b (w := w) (Nat.le_refl _) W D _ _ (by omega) HK.out rfl rfl)⟩⟩
set_option maxHeartbeats 1000000 in
theorem impl_DotRat (B : Nat) (a1 a2 : Option Addr) (c1 c2 : Nat) (xs ys : List R) (hn : xs.length ≤ 1048576) (_hn2 : ys.length ≤ 1048576) (w : World) (hBw : B ≤ w.heap.size) (h1 : RatsIn B w a1 xs) (h2 : RatsIn B w a2 ys) :
    Calls Tryd.prog 10 #[.slice a1 xs.length c1, .slice a2 ys.length c2] w (OneRat (Ve.dotR xs ys) (Ve.dotK xs ys) w) := by
  by_cases hl : xs.length = ys.length
  · exact callsIn_wide.1 (impl_DotRat_same B a1 a2 c1 c2 xs ys hl hn w hBw h1 h2)
  · obtain ⟨e1, e2⟩ := Ve.dot_len hl
    rw [e1, e2]
    have hlb : ((xs.length : Int) == (ys.length : Int)) = false ∧ ((xs.length : Int) != (ys.length : Int)) = true := by
      have h1 : ((xs.length : Int) == (ys.length : Int)) = false := by rw [beq_eq_false_iff_ne]; omega
      exact ⟨h1, by rw [bne, h1]; rfl⟩
    obtain ⟨l1, l2⟩ := hlb
    clear e1 e2 h1 h2
    go_enter Tryd.func10, Tryd.ntmps10
    go_wp2_with fail
    exact bodyPost_ret (v := .tuple #[.agg #[.int .i64 0, .int .i64 0], .bool false]) (by simp [results, Tryd.results10, go_sem]) rfl ⟨rfl, by (repeat' (first | exact Below.refl _ _ | exact Nat.le_refl _ | refine Below.setCell ?_ ?_ _ | refine Below.alloc ?_ ?_ _ | refine below_drewN ?_ _ | refine Below.drew ?_ | (simp; done) | (simp; omega)))⟩
end Go.Proofs.YtlaohlcghdbjhaaDoor
