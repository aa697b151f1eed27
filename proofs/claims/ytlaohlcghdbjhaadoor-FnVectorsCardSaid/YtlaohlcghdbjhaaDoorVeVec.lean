/- impl's vectorOf, over whatever iterator. -/
import Derived.Test.YtlaohlcghdbjhaaDoorVeDot
import Derived.Maps.AppendAt
namespace Go.Proofs.YtlaohlcghdbjhaaDoor
open Go.RowKit Go.Shelf
open Ve (R)
attribute [local go_sem] Oper.semAt_some

/-- What an iterator over f 0, .., f (n - 1) promises vectorOf that begins in w. -/
def Gives (w : World) (gf : Nat) (lb : Array Value) (f : Nat → R × Bool) (n : Nat) : Prop :=
  ∀ W0, Below w.heap.size w W0 → SeqStopsK Fence.wide 2 Tryd.prog gf lb encP (KeepR w.heap.size 0 w.heap.size) (fun ys => ys = seqF f n) (fun pre => ∃ k, k ≤ n ∧ pre = seqF f k) n W0
/-- vectorOf's variables: the vector, the two results. -/
structure VecW (w : World) (v : Value) (l : List R) (W : World) : Prop where
  vec : Boxed W (w.heap.size + 1 + 1) 24 v
  own : OwnRats w.heap.size W v l
  res : Boxed W w.heap.size 24 (.slice none 0 0)
  ok : Boxed W (w.heap.size + 1) 4 (.bool false)
  low : Below w.heap.size w W
  big : w.heap.size + 3 ≤ W.heap.size
theorem VecW.grown {w : World} {v : Value} {l : List R} {W W' : World} {row : Option Nat} {B : Nat} (h : VecW w v l W) (hB : w.heap.size + 3 ≤ B) (hg : W.grownBy W' row) (hr : ∀ r, row = some r → B ≤ r ∧ ∃ o : Obj, W.heap[r]? = some o ∧ o.isCells = false) : VecW w v l W' := by
  refine ⟨from_at h.vec (by omega) hg hr, h.own.kept hg ?_, from_at h.res (by omega) hg hr, from_at h.ok (by omega) hg hr, h.low.grown hg h.low.size (fun r e => by have := (hr r e).1; omega), Nat.le_trans h.big hg.size⟩
  rcases h.own.2 with ⟨rfl, _⟩ | ⟨g, cap, cur, rfl, _, hgb, _⟩
  · exact .inl rfl
  · refine .inr fun e' => ?_
    obtain ⟨_, o, ho, hc⟩ := hr g e'.symm
    rw [hgb] at ho; cases ho; cases hc
theorem VecW.below {w : World} {v : Value} {l : List R} {W W' : World} (h : VecW w v l W) (hb : Below W.heap.size W W') : VecW w v l W' :=
  ⟨(hb.block _ h.vec.lt).trans h.vec, h.own.below hb, (hb.block _ h.res.lt).trans h.res, (hb.block _ h.ok.lt).trans h.ok, h.low.trans (hb.mono h.low.size), Nat.le_trans h.big hb.size⟩
theorem VecW.nil {w : World} {v : Value} {l : List R} {W : World} (h : VecW w v l W) : VecW w v l ((W.setCell ⟨w.heap.size, 0, none⟩ (.slice none 0 0)).setCell ⟨w.heap.size + 1, 0, none⟩ (.bool false)) := by
  have e : ∀ k, k ≠ w.heap.size → k ≠ w.heap.size + 1 → ((W.setCell ⟨w.heap.size, 0, none⟩ (.slice none 0 0)).setCell ⟨w.heap.size + 1, 0, none⟩ (.bool false)).heap[k]? = W.heap[k]? := fun k h1 h2 => by
    rw [Below.heap_setCell _ _ _ _ (show k ≠ w.heap.size + 1 from h2), Below.heap_setCell _ _ _ _ (show k ≠ w.heap.size from h1)]
  refine ⟨(e _ (by omega) (by omega)).trans h.vec, ?_, ?_, ?_, ?_, by simpa [World.setCell] using h.big⟩
  · have o1 := World.ownsRow.kept h.own (grownBy_setCell' W w.heap.size (.slice none 0 0)) (.inr (h.res.not_row (by decide) h.own).symm)
    exact o1.kept (grownBy_setCell' _ (w.heap.size + 1) (.bool false)) (.inr (h.ok.not_row (by decide) h.own).symm)
  · unfold Boxed
    rw [Below.heap_setCell _ _ _ _ (show w.heap.size ≠ w.heap.size + 1 by omega)]
    exact h.res.set _
  · refine Boxed.set _ (v := .bool false) ?_
    unfold Boxed
    rw [Below.heap_setCell _ _ _ _ (show w.heap.size + 1 ≠ w.heap.size by omega)]
    exact h.ok
  · exact (h.low.setCell (p := ⟨w.heap.size, 0, none⟩) (Nat.le_refl _) _).setCell (p := ⟨w.heap.size + 1, 0, none⟩) (by show w.heap.size ≤ w.heap.size + 1; omega) _
theorem VecW.appended {w : World} {v v' : Value} {l : List R} {x : R} {W w1 : World} {tmp : Obj} (h : VecW w v l W) (hown' : w1.ownsRow w.heap.size 26 2 v' (l.length + 1) (cellsR l ++ [.int .i64 x.1, .int .i64 x.2])) (hgrow : (W.alloc tmp).grownBy w1 v.ownBlock) :
    Boxed w1 (w.heap.size + 1 + 1) 24 v ∧ VecW w v' (l ++ [x]) (w1.setCell ⟨w.heap.size + 1 + 1, 0, none⟩ v') ∧ KeepsOthers W (w1.setCell ⟨w.heap.size + 1 + 1, 0, none⟩ v') ∧ Below w.heap.size W (w1.setCell ⟨w.heap.size + 1 + 1, 0, none⟩ v') := by
  obtain ⟨hv1, hv2, hr2, hk2, hb2⟩ := h.vec.appended (by decide) h.own h.low.size (by omega) hown' hgrow
  have g0 : Boxed w1 w.heap.size 24 (.slice none 0 0) := (h.res.alloc tmp).kept hgrow (h.res.not_row (by decide) h.own)
  have g1 : Boxed w1 (w.heap.size + 1) 4 (.bool false) := (h.ok.alloc tmp).kept hgrow (h.ok.not_row (by decide) h.own)
  exact ⟨hv1, ⟨hv2, OwnRats.more hr2, g0.other (by omega) _, g1.other (by omega) _, h.low.trans hb2, Nat.le_trans h.big hk2.size⟩, hk2, hb2⟩
theorem cell_two_new (W : World) (x y : Value) (t : TypeId) : ∀ (j : Nat) (u : Value), [x, y][j]? = some u → (W.alloc (.cells #[x, y] t)).cell? ((⟨W.heap.size, 0, none⟩ : Addr).add j) = some u := by
  intro j u hj
  match j, hj with
  | 0, hj => simp at hj; subst hj; simp [Addr.add]
  | 1, hj => simp at hj; subst hj; simp [Addr.add]
def VecI (w : World) (pre : List (R × Bool)) (W : World) : Prop := (∃ v, VecW w v (pre.map (·.1)) W) ∧ ∀ x, x ∈ pre → x.2 = true
def EndsNo (pre : List (R × Bool)) : Prop := ∃ (pre' : List (R × Bool)) (x : R × Bool), pre = pre' ++ [x] ∧ x.2 = false
def VecX (w : World) (c : Code) (pre : List (R × Bool)) (W : World) : Prop := c = .ret ∧ (∃ v l, VecW w v l W) ∧ EndsNo pre
set_option maxRecDepth 100000 in
set_option maxHeartbeats 8000000 in
theorem impl_vectorOf_in (gf : Nat) (lb : Array Value) (eg : ∀ args w, (callFunc gf args).run Tryd.prog w = .ok (.enter gf args) w) (f : Nat → R × Bool) (n : Nat) (hn : n ≤ 1048576) (w : World) (hseq : Gives w gf lb f n) :
    CallsIn Fence.wide 3 Tryd.prog 29 #[.func (.func gf) #[] lb] w (MakesRatsK (Ve.outR f n) (Ve.allK f n) w) := by
  obtain ⟨i0, hi, hz0, hz1, hz2⟩ := info_parts info_rat
  have HI := Lib.hid hi
  have HZ0 := Lib.hid hz0
  have HZ1 := Lib.hid hz1
  have HZ2 := Lib.hid hz2
  have b0 := ((Boxed.new w 24 (.slice none 0 0)).alloc (.cells #[.bool false] 4)).alloc (.cells #[.slice none 0 0] 24)
  have b1 := (Boxed.new (w.alloc (.cells #[.slice none 0 0] 24)) 4 (.bool false)).alloc (.cells #[.slice none 0 0] 24)
  have b2 := Boxed.new ((w.alloc (.cells #[.slice none 0 0] 24)).alloc (.cells #[.bool false] 4)) 24 (.slice none 0 0)
  have hB0 : Below w.heap.size w (((w.alloc (.cells #[.slice none 0 0] 24)).alloc (.cells #[.bool false] 4)).alloc (.cells #[.slice none 0 0] 24)) := by (repeat' (first | exact Below.refl _ _ | exact Nat.le_refl _ | refine Below.setCell ?_ ?_ _ | refine Below.alloc ?_ ?_ _ | refine below_drewN ?_ _ | refine Below.drew ?_ | (simp; done) | (simp; omega)))
  have hsz : (((w.alloc (.cells #[.slice none 0 0] 24)).alloc (.cells #[.bool false] 4)).alloc (.cells #[.slice none 0 0] 24)).heap.size = w.heap.size + 3 := by simp only [World.size_alloc]
  simp only [World.size_alloc] at b0 b1 b2
  have HB := Lib.hid (And.intro b0 (And.intro b1 (And.intro b2 (And.intro hB0 hsz))))
  have HS := Lib.hid hseq
  have HE := Lib.hid eg
  clear b0 b1 b2 hB0 hsz hi hz0 hz1 hz2 hseq eg
  refine callsIn_of_wp_marks Tryd.func29 rfl trivial ?_ rfl
  simp only [Tryd.ntmps29, List.size_toArray, List.length_cons, List.length_nil, Nat.reduceAdd, Nat.reduceSub, Array.replicate_succ, Array.replicate_zero, List.push_toArray, List.append_toArray, List.nil_append, List.cons_append]
  gi_wp2_with fail
  obtain ⟨W0, hW0⟩ : ∃ W0, (((w.alloc (.cells #[.slice none 0 0] 24)).alloc (.cells #[.bool false] 4)).alloc (.cells #[.slice none 0 0] 24)) = W0 := ⟨_, rfl⟩
  rw [hW0] at HB ⊢
  clear hW0
  obtain ⟨b0, b1, b2, hB0, hsz⟩ := HB.out
  clear HB
  have hVW : VecW w (.slice none 0 0) [] W0 := ⟨b2, OwnRats.nil _ _, b0, b1, hB0, by omega⟩
  refine wpIn_rangeFunc_ownH (F := Fence.wide) rfl (by omega) (gf := gf) (lb := lb) rfl trivial HE.out
    (encs := encP) (Kp := KeepR w.heap.size 0 w.heap.size) (S := fun ys => ys = seqF f n) (Sp := fun pre => ∃ k, k ≤ n ∧ pre = seqF f k) (N := n) (w0 := W0) (HS.out W0 hB0)
    KeepR.trans (keepR_b (by omega) (by omega)) (Below.refl _ _) (fun _ => rfl)
    (VecI w)
    (VecX w)
    (fun pre W W' row hs hg hr => ⟨hs.1.imp (fun v h => h.grown (by omega) hg hr), hs.2⟩)
    (fun c pre W W' row hs hg hr => ⟨hs.1, hs.2.1.imp (fun v h => h.imp fun l h => h.grown (by omega) hg hr), hs.2.2⟩)
    ⟨⟨_, hVW⟩, fun x hx => by cases hx⟩
    (fun x a' W => ∃ Bx, w.heap.size + 3 ≤ Bx ∧ BoxAt W Bx x.1 ∧ a' = { tmps := #[.func (.func gf) #[] lb, undef, .pointer (some ⟨w.heap.size, 0, none⟩), .pointer (some ⟨w.heap.size + 1, 0, none⟩), .pointer (some ⟨w.heap.size + 1 + 1, 0, none⟩), .pointer (some ⟨Bx, 0, none⟩), .bool x.2, .func (.func gf) #[] lb, .agg #[.int .i64 x.1.1, .int .i64 x.1.2], .bool x.2, undef, undef, undef, undef, undef, undef, undef], defers := [] })
    (fun x a' _ X Y row hs hg hr => by obtain ⟨Bx, h1, h2, h3⟩ := hs; exact ⟨Bx, h1, from_cells h2 hg hr, h3⟩)
    ?assign ?body ?done ?stop
  case assign =>
    rintro l pre x W K ⟨⟨v, hV⟩, hA⟩ hK
    have hws := hV.low.size
    have hbg := hV.big
    dsimp only [encP]
    gi_wp2
    exact hK _ _ ((KeepsOthers.alloc _ _).from _) (KeepR.of_below ((Below.refl _ _).alloc (Nat.le_refl _) _) hws hws) ⟨⟨v, hV.below ((Below.refl _ _).alloc (Nat.le_refl _) _)⟩, hA⟩ ⟨W.heap.size, hbg, BoxAt.new W x.1, rfl⟩
  case body =>
    rintro l pre ⟨x, xk⟩ a' W hl _ ⟨⟨v, hV⟩, hA⟩ ⟨Bx, hBx, bX, rfl⟩ hlt
    have HA := Lib.hid hA
    have hws := hV.low.size
    have hbg := hV.big
    have HV := Lib.hid hV
    obtain ⟨x0, x1, -, -⟩ := bX.four
    have v0 := hV.vec.cell
    have r0 := hV.res.cell
    have r1 := hV.res.frozen
    have k0 := hV.ok.cell
    have k1 := hV.ok.frozen
    clear hA hV bX
    cases xk with
    | false =>
      gi_wp2_with fail
      exact ⟨((KeepsOthers.setCell _ _ _).trans (KeepsOthers.setCell _ _ _)).from _, rfl, ⟨v, _, HV.out.nil⟩, pre, _, rfl, rfl⟩
    | true =>
      have hlen : (pre.map (·.1)).length ≤ pre.length := by simp
      obtain ⟨ls, hls⟩ : ∃ ls, pre.map (·.1) = ls := ⟨_, rfl⟩
      rw [hls] at hlen HV
      have HLS := Lib.hid hls
      clear hls
      have Hown := Lib.hid (World.ownsRow.alloc HV.out.own (.cells #[.int .i64 x.1, .int .i64 x.2] 26))
      have C1 := cell_two_new W (.int .i64 x.1) (.int .i64 x.2) 26
      have C2 : ∀ u ∈ [Value.int .i64 x.1, .int .i64 x.2], u.oneCell' = true := fun u hu => by simp at hu; rcases hu with rfl | rfl <;> rfl
      have C3 : ls.length + 1 ≤ maxLen := by unfold maxLen; omega
      have C4 : (ls.length + 1) * 16 ≤ 140737488355328 := by omega
      have C5 : w.heap.size ≤ (W.alloc (.cells #[.int .i64 x.1, .int .i64 x.2] 26)).heap.size := by rw [size1]; omega
      have HC := Lib.hid (And.intro C1 (And.intro C2 (And.intro C3 (And.intro C4 C5))))
      clear C1 C2 C3 C4 C5
      gi_wp2_with (gi_at_builtin; refine wpListIn_append_own _ rfl _ _ 24 rfl w.heap.size 26 i0 (.agg #[.int .i64 0, .int .i64 0]) 2 16 Tryd.underlying24 HI.out HZ0.out HZ1.out HZ2.out rfl (by decide) _ _ _ rfl Hown.out ⟨W.heap.size, 0, none⟩ 1 1 [.int .i64 x.1, .int .i64 x.2] rfl rfl HC.out.1 HC.out.2.1 HC.out.2.2.1 HC.out.2.2.2.1 HC.out.2.2.2.2 ?_; intro v' w1 hown' hgrow _; obtain ⟨hv1, hv2, hk2, hb2⟩ := HV.out.appended hown' hgrow; obtain ⟨g', cap', rfl⟩ := ownsRow_succ hown'; have hc1 := hv1.cell; have hf1 := hv1.frozen; have HV2 := Lib.hid hv2; have HK2 := Lib.hid hk2; have HB2 := Lib.hid hb2; clear hv2 hk2 hb2 hown' hgrow hv1)
      refine ⟨HK2.out.from _, ⟨HB2.out, fun k _ hk => HB2.out.block k hk⟩, ⟨_, by rw [List.map_append, HLS.out]; exact HV2.out⟩, fun y hy => ?_⟩
      rcases List.mem_append.1 hy with h | h
      · exact HA.out y h
      · simp at h; rw [h]
  case done =>
    rintro D zs W hDl rfl ⟨⟨v, hV⟩, hA⟩ hK
    have hE : Ve.allK f n = true := by
      unfold Ve.allK
      rw [List.all_eq_true]
      exact fun j hj => hA (f j) (List.mem_map.2 ⟨j, hj, rfl⟩)
    have hE1 : Ve.outR f n = (seqF f n).map (·.1) := by rw [Ve.out_yes hE]; unfold Ve.upto seqF; rw [List.map_map]; rfl
    have HE1 := Lib.hid hE1
    have HE2 := Lib.hid hE
    have HV := Lib.hid hV
    have HK := Lib.hid hK
    have v0 := hV.vec.cell
    have r0 := hV.res.cell
    have r1 := hV.res.frozen
    have k0 := hV.ok.cell
    have k1 := hV.ok.frozen
    generalize (seqF f n).map (·.1) = ls at *
    obtain ⟨va, vc, hvv, -, -, -⟩ := own_rats hV.own
    subst hvv
    clear hV hA hE hE1 hK
    gi_wp2_with fail
    obtain ⟨W2, hW2⟩ : ∃ W2, ((W.setCell ⟨w.heap.size, 0, none⟩ (.slice va ls.length vc)).setCell ⟨w.heap.size + 1, 0, none⟩ (.bool true)) = W2 := ⟨_, rfl⟩
    have q0 : Boxed W2 w.heap.size 24 (.slice va ls.length vc) := by
      rw [← hW2]; unfold Boxed
      rw [Below.heap_setCell _ _ _ _ (show w.heap.size ≠ w.heap.size + 1 by omega)]
      exact HV.out.res.set _
    have q1 : Boxed W2 (w.heap.size + 1) 4 (.bool true) := by
      rw [← hW2]
      refine Boxed.set _ (v := .bool false) ?_
      unfold Boxed
      rw [Below.heap_setCell _ _ _ _ (show w.heap.size + 1 ≠ w.heap.size by omega)]
      exact HV.out.ok
    have hK2 : W2.heap[D]? = some (.deferred (some [])) := by
      rw [← hW2]; exact ((KeepsOthers.setCell _ _ _).trans (KeepsOthers.setCell _ _ _)).same D _ HK.out rfl
    have hB2 : Below w.heap.size w W2 := by
      rw [← hW2]; exact (HV.out.low.setCell (p := ⟨w.heap.size, 0, none⟩) (Nat.le_refl _) _).setCell (p := ⟨w.heap.size + 1, 0, none⟩) (by show w.heap.size ≤ w.heap.size + 1; omega) _
    have hO2 : OwnRats w.heap.size W2 (.slice va ls.length vc) ls := by
      have o1 := World.ownsRow.kept HV.out.own (grownBy_setCell' W w.heap.size (.slice va ls.length vc)) (.inr (HV.out.res.not_row (by decide) HV.out.own).symm)
      have o2 := o1.kept (grownBy_setCell' _ (w.heap.size + 1) (.bool true)) (.inr (HV.out.ok.not_row (by decide) HV.out.own).symm)
      rw [← hW2]; exact o2
    rw [hW2]
    have z0 := Boxed.cell (put_at (o2 := .deferred none) q0 hK2 (by simp))
    have z1 := Boxed.cell (put_at (o2 := .deferred none) q1 hK2 (by simp))
    refine ⟨by simp, .inl ⟨_, _, rfl, run_takeDeferred hK2, ?_⟩⟩
    refine ⟨.tuple #[.slice va ls.length vc, .bool true], by simp [results, Tryd.results29, go_sem, z0, z1], ?_⟩
    rw [HE1.out, HE2.out]
    exact ⟨_, rfl, ownsRow_putObj hO2 _ hK2 rfl, hB2.trans (belowK_b (w := w) (Nat.le_refl _) W2 D _ _ (by omega) hK2 rfl rfl)⟩
  case stop =>
    rintro D c pre W hDl ⟨k, hk, rfl⟩ ⟨rfl, ⟨v, l, hV⟩, pre', x, hp, hx⟩ hK
    have hE : Ve.allK f n = false := by
      have hk0 : k ≠ 0 := by rintro rfl; simp [seqF] at hp
      obtain ⟨k', rfl⟩ : ∃ k', k = k' + 1 := ⟨k - 1, by omega⟩
      rw [seqF_succ] at hp
      have hx2 : f k' = x := by have := congrArg List.getLast? hp; simpa using this
      exact Ve.allK_no (k := k') (by omega) (by rw [hx2]; exact hx)
    have HE1 := Lib.hid (Ve.out_no hE)
    have HE2 := Lib.hid hE
    have HV := Lib.hid hV
    have HK := Lib.hid hK
    clear hV hE hK hp
    gi_wp2_with fail
    have z0 := Boxed.cell (put_at (o2 := .deferred none) HV.out.res HK.out (by simp))
    have z1 := Boxed.cell (put_at (o2 := .deferred none) HV.out.ok HK.out (by simp))
    refine ⟨by simp, .inl ⟨_, _, rfl, run_takeDeferred HK.out, ?_⟩⟩
    refine ⟨.tuple #[.slice none 0 0, .bool false], by simp [results, Tryd.results29, go_sem, z0, z1], ?_⟩
    rw [HE1.out, HE2.out]
    exact ⟨_, rfl, OwnRats.nil _ _, HV.out.low.trans (belowK_b (w := w) (Nat.le_refl _) W D _ _ (by omega) HK.out rfl rfl)⟩
end Go.Proofs.YtlaohlcghdbjhaaDoor
