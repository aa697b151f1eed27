/- The code's ExcessVector: slices.SortFunc at fractions, sortDescending. -/
import Derived.Test.YtpidlmmpejoeaaaGreatPyF
import Derived.Test.YtpidlmmpejoeaaaGreatPyK
import Derived.Test.YtpidlmmpejoeaaaGreatPyN
import Derived.Test.YtpidlmmpejoeaaaGreatSoLay
set_option maxRecDepth 100000
namespace Go.Proofs.YtpidlmmpejoeaaaGreat
open Go.RowKit Go.Sort
open Ve (R)
open Gm (G)
def encV (x : Py.V) : List Value := [.int .i64 x.1.1, .int .i64 x.1.2]
theorem flat_is (d : Array Py.V) : flatK encV 2 d = (cellsR (d.toList.map Subtype.val)).toArray := by
 have hlen : (cellsR (d.toList.map Subtype.val)).length = d.size * 2 := by rw [cellsR_len]; simp
 apply Array.ext
 ·
  simp [hlen]
 ·
  intro t h1 h2
  have ht : t < d.size * 2 := by simpa using h1
  have hk : t / 2 < d.size := by omega
  have he := cellsR_at (d.toList.map Subtype.val) (t / 2) d[t / 2].1 (by simp [hk])
  have hg : (flatK encV 2 d)[t]! = (flatK encV 2 d)[t] := getElem!_pos _ t h1
  have ht3 : t < (cellsR (d.toList.map Subtype.val)).length := by rw [hlen]; exact ht
  have h5 : (cellsR (d.toList.map Subtype.val))[t]? = some ((encV d[t / 2])[t % 2]!) := by
   rcases Nat.mod_two_eq_zero_or_one t with h0 | h0
   ·
    have h4 : t / 2 * 2 = t := by omega
    have h3 := he.1
    rw [h4] at h3
    rw [h0, h3]; rfl
   ·
    have h4 : t / 2 * 2 + 1 = t := by omega
    have h3 := he.2
    rw [h4] at h3
    rw [h0, h3]; rfl
  have h6 : (cellsR (d.toList.map Subtype.val))[t] = (encV d[t / 2])[t % 2]! := by
   have := List.getElem?_eq_getElem ht3
   rw [h5] at this
   exact (Option.some.inj this).symm
  rw [← hg, get_flatK _ _ _ _ ht, getElem!_pos d (t / 2) hk, ← h6]
  simp
theorem own_holds {B g cap : Nat} {w : World} {xs : List R} (h : OwnRats B w (.slice (some ⟨g, 0, none⟩) xs.length cap) xs) {d : Array Py.V} (hd : d.toList.map Subtype.val = xs) : HoldsK encV 2 w g 0 d := by
 unfold HoldsK
 rw [flat_is, hd]
 obtain ⟨h1, ⟨e, _⟩ | ⟨g', cap', cur, e, hg, hh, hc, hm, hs, ht⟩⟩ := h
 ·
  cases e
 ·
  injection e with e1 e2 e3
  simp only [Option.some.injEq, Addr.mk.injEq, and_true] at e1
  subst e1
  intro j hj
  have hj2 : j < (cellsR xs).length := by simpa using hj
  have hcj : cur[j]? = some (cellsR xs)[j] := by
   rw [← Array.getElem?_toList, ← List.getElem?_eq_getElem hj2, ← ht, List.getElem?_take, if_pos (by rw [h1] at hj2; exact hj2)]
  constructor
  ·
   rw [Nat.zero_add]
   simp only [World.cell?, hh, hcj]
   rw [getElem!_pos _ j hj]
   simp
  ·
   simp [World.frozen?, hh]
theorem sort_block {w : World} {n g k : Nat} {F : Array Value} {os : Array Obj} (hk : k < w.heap.size) : (grow (putRow id (Sort.ahead w n) g 0 F) os).heap[k]? = if g = k then (w.heap[k]?).map (onCells (putCells id 0 F)) else w.heap[k]? := by
 have h1 : (grow (putRow id (Sort.ahead w n) g 0 F) os).heap = w.heap.modify g (onCells (putCells id 0 F)) ++ os := rfl
 rw [h1, Array.getElem?_append_left (by simpa using hk), Array.getElem?_modify]
theorem own_sorted {B g cap : Nat} {w : World} {xs ys : List R} (h : OwnRats B w (.slice (some ⟨g, 0, none⟩) xs.length cap) xs) (hl : ys.length = xs.length) (n : Nat) (os : Array Obj) :
  OwnRats B (grow (putRow id (Sort.ahead w n) g 0 (cellsR ys).toArray) os) (.slice (some ⟨g, 0, none⟩) xs.length cap) ys ∧ w.grownBy (grow (putRow id (Sort.ahead w n) g 0 (cellsR ys).toArray) os) (some g) := by
 obtain ⟨h1, ⟨e, _⟩ | ⟨g', cap', cur, e, hg, hh, hc, hm, hs, ht⟩⟩ := h
 ·
  cases e
 ·
  injection e with e1 e2 e3
  simp only [Option.some.injEq, Addr.mk.injEq, and_true] at e1
  subst e1 e3
  have hgl := lt_of_at hh
  have hb : (grow (putRow id (Sort.ahead w n) g 0 (cellsR ys).toArray) os).heap[g]? = some (.cells (putCells id 0 (cellsR ys).toArray cur) 32 (0, 0)) := by
   rw [sort_block hgl, if_pos rfl, hh]
   rfl
  refine ⟨⟨by rw [cellsR_len], .inr ⟨g, cap, putCells id 0 (cellsR ys).toArray cur, by rw [hl], hg, hb, by omega, hm, by simp [putCells, hs], ?_⟩⟩, ?_⟩
  ·
   have hle : (cellsR ys).length ≤ cur.size := by rw [cellsR_len, hs, hl]; omega
   apply List.ext_getElem?
   intro t
   rw [List.getElem?_take]
   by_cases ht2 : t < ys.length * 2
   ·
    rw [if_pos ht2]
    have ht3 : t < (cellsR ys).length := by rw [cellsR_len]; exact ht2
    simp only [putCells, Array.getElem?_toList, Array.getElem?_mapIdx]
    rw [Array.getElem?_eq_getElem (by omega), List.getElem?_eq_getElem ht3]
    simp [ht3]
   ·
    rw [if_neg ht2, List.getElem?_eq_none (by rw [cellsR_len]; omega)]
  ·
   refine ⟨rfl, rfl, rfl, by simp [grow, putRow, mapBlock], fun k hk hne => ?_⟩
   have hne' : g ≠ k := fun e => hne (by rw [e])
   rw [sort_block hk, if_neg hne']
set_option maxHeartbeats 4000000 in
theorem sort_some {B g cap q : Nat} {w : World} {xs : List R} (h : OwnRats B w (.slice (some ⟨g, 0, none⟩) xs.length cap) xs) (hv : ∀ y ∈ xs, Ve.vld y = true) (hl : xs.length ≤ 1000)
  (hq : q < w.heap.size) (hqg : q ≠ g) (hc : w.cell? ⟨q, 0, none⟩ = some (.func (.func 18) #[] #[])) :
  Calls Tryz.prog 69 #[.slice (some ⟨g, 0, none⟩) xs.length cap, .func (.func 70) #[] #[.pointer (some ⟨q, 0, none⟩)]] w fun e w' =>
   e = .returned (.tuple #[]) ∧ OwnRats B w' (.slice (some ⟨g, 0, none⟩) xs.length cap) (Py.srt xs xs.length) ∧ w.grownBy w' (some g) := by
 have hgl : g < w.heap.size := by
  obtain ⟨_, ⟨e, _⟩ | ⟨g', cap', cur, e, hg, hh, _⟩⟩ := h
  ·
   cases e
  ·
   injection e with e1; simp only [Option.some.injEq, Addr.mk.injEq, and_true] at e1; subst e1; exact lt_of_at hh
 obtain ⟨d, hd⟩ : ∃ d : Array Py.V, d.toList.map Subtype.val = xs := ⟨(xs.attach.map fun y => (⟨y.1, hv y.1 y.2⟩ : Py.V)).toArray, by rw [List.toList_toArray, List.map_map]; exact List.attach_map_subtype_val xs⟩
 have hds : d.size = xs.length := by rw [← hd]; simp
 have eg : ∀ args w, (callFunc 70 args).run Tryz.prog w = .ok (.enter 70 args) w := enters_of Tryz.func70 (by kernel_rfl) rfl
 have hcmp : CmpLays Tryz.prog 70 #[.pointer (some ⟨q, 0, none⟩)] encV 2 Py.turn g 0 d.size w := fun m os dk _ x y => by
  have hs := size_sortWorldK_c encV 2 w g 0 m dk os
  have hcell : (sortWorldK encV 2 w g 0 m dk os).cell? ⟨q, 0, none⟩ = some (.func (.func 18) #[] #[]) := by
   rw [← hc]
   refine World.cell?_of_block ?_
   show (grow (putRow id (Sort.ahead w m) g 0 _) os).heap[q]? = _
   rw [sort_block hq, if_neg (Ne.symm hqg)]
  exact (impl_turned x.1 y.1 q _ (by omega) hcell).mono fun e w' ⟨he, hb⟩ => ⟨he, hb.grew⟩
 have hcon := AnyQ.slices_SortFunc Tryz.sortRat 2 Tryz.isAgg32 Tryz.sizeOf32 encV (fun _ => rfl) (fun x v hv => by simp [encV] at hv; rcases hv with rfl | rfl <;> rfl) Py.turn Py.turn_swo 70 #[.pointer (some ⟨q, 0, none⟩)] g 0 cap d w eg hcmp (own_holds h hd) hgl (by omega)
 rw [hds] at hcon
 refine Calls.mono (P := Tryz.prog) hcon ?_
 rintro e w' ⟨rfl, d', n, os, hp, hs, rfl⟩
 rw [← hds] at hp hs
 have hz := Py.sorted_is hv hd hp hs
 have ho := own_sorted h (Py.srt_len xs xs.length) n os
 have hw : sortWorldK encV 2 w g 0 n d' os = grow (putRow id (Sort.ahead w n) g 0 (cellsR (Py.srt xs xs.length)).toArray) os := by
  unfold sortWorldK putRowK
  rw [flat_is, hz]
 rw [hw]
 exact ⟨rfl, ho.1, ho.2⟩
theorem insert_zero (a : Option Addr) (cap : Nat) (f : Value) (w : World) : Calls Tryz.prog 90 #[.slice a 0 cap, .int .i64 0, .int .i64 0, f] w fun e w' => e = .returned (.tuple #[]) ∧ w' = w := by
 go_enter Tryz.func90, Tryz.ntmps90
 go_wp2_with fail
 go_loop [8] (fun i => i = .int .i64 1) (fun _ => 0)
 case atStart => rfl
 case round =>
  subst hrel
  go_wp2_with fail
  go_end0
  exact ⟨rfl, rfl⟩
theorem pdq_zero (a : Option Addr) (cap : Nat) (f : Value) (k : Int) (w : World) : Calls Tryz.prog 86 #[.slice a 0 cap, .int .i64 0, .int .i64 0, .int .i64 k, f] w fun e w' => e = .returned (.tuple #[]) ∧ w' = w := by
 have HI := zH (fun w => insert_zero a cap f w)
 go_enter Tryz.func86, Tryz.ntmps86
 go_wp2_with fail
 go_loop [1, 2] (fun i j => i = .int .i64 0 ∧ j = .int .i64 0) (fun _ _ => 0)
 case atStart => exact ⟨rfl, rfl⟩
 case round =>
  obtain ⟨rfl, rfl⟩ := hrel
  go_wp2_with fail
  refine (HI.out _).mono ?_
  rintro e w1 ⟨rfl, rfl⟩
  go_wp2_with fail
  exact bodyPost_ret (v := .tuple #[]) (by simp [results, Tryz.results86, go_sem]) rfl ⟨rfl, rfl⟩
theorem sort_zero (a : Option Addr) (cap : Nat) (f : Value) (w : World) : Calls Tryz.prog 69 #[.slice a 0 cap, f] w fun e w' => e = .returned (.tuple #[]) ∧ w' = w := by
 have HL := zH (fun w => Any.bits_Len (SlLaysF0.n15.bits (P := Tryz.prog) (ρ := Tryz.sortRat_ren) { Tryz.sortRat with }) (0 : Int) w (by decide) (by decide))
 have HP := zH (fun k w => pdq_zero a cap f k w)
 go_enter Tryz.func69, Tryz.ntmps69
 go_wp2_with fail
 refine (HL.out _).mono ?_
 rintro e w1 ⟨rfl, rfl⟩
 go_wp2_with fail
 refine (HP.out _ _).mono ?_
 rintro e w1 ⟨rfl, rfl⟩
 go_wp2_with fail
 go_end0
 exact ⟨rfl, rfl⟩
set_option maxHeartbeats 4000000 in
theorem impl_sortDescending {B : Nat} {w : World} {v : Value} {xs : List R} (h : OwnRats B w v xs) (hB : B ≤ w.heap.size) (hv : ∀ y ∈ xs, Ve.vld y = true) (hl : xs.length ≤ 1000) :
  Calls Tryz.prog 35 #[v, .func (.func 18) #[] #[]] w fun e w' => e = .returned (.tuple #[]) ∧ OwnRats B w' v (Py.srt xs xs.length) ∧ Below B w w' := by
 have hmf : ∀ (fn : Fn) (first cap : Array Value) (w : World), (Instr.makeFunc fn first cap).run Tryz.prog w = .ok (.func fn first cap) w := fun _ _ _ _ => rfl
 obtain ⟨a, cap, rfl, hr, hp, hne⟩ := own_rats h
 have hba := (Below.refl w.heap.size w).alloc (Nat.le_refl _) (.cells #[.func (.func 18) #[] #[]] 38)
 have hbb := hba.mono hB
 by_cases h0 : xs = []
 ·
  subst h0
  have HS := zH (fun (f : Value) (w : World) => sort_zero a cap f w)
  have HB := zH hbb
  have HO := zH (h.below hba)
  clear h hr hp hne hba hbb
  go_enter Tryz.func35, Tryz.ntmps35
  go_wp2_with fail
  refine (HS.out _ _).mono ?_
  rintro e w1 ⟨rfl, rfl⟩
  go_wp2_with fail
  go_end0
  exact ⟨rfl, HO.out, HB.out⟩
 ·
  obtain ⟨g, rfl⟩ := hne h0
  have hg := hp _ rfl
  dsimp only at hg
  have hcell : (w.alloc (.cells #[.func (.func 18) #[] #[]] 38)).cell? ⟨w.heap.size, 0, none⟩ = some (.func (.func 18) #[] #[]) := by simp
  have HS := zH (sort_some (h.below hba) hv hl (q := w.heap.size) (by rw [size1]; omega) (by omega) hcell)
  have HB := zH hbb
  have hlo := hbb.size
  have Hg := zH hg.1
  generalize Py.srt xs xs.length = ys at *
  clear h hr hp hne hba hbb hcell h0 hg
  go_enter Tryz.func35, Tryz.ntmps35
  go_wp2_with fail
  refine HS.out.mono ?_
  rintro e w1 ⟨rfl, ho, hgr⟩
  have HO := zH ho
  have HB1 := zH (HB.out.grown hgr (Nat.le_trans hB hlo) (fun g' hg' => by simp at hg'; have := Hg.out; omega))
  clear ho hgr
  go_wp2_with fail
  go_end0
  exact ⟨rfl, HO.out, HB1.out⟩
set_option maxHeartbeats 4000000 in
theorem impl_ExcessVector {w : World} {x y v : Value} {g : G} {xs : List R} (h : GmC w x y g) (hv : InRats w v xs) (hf : GmOk g) (hx : xs.length ≤ 1048576) :
  Calls Tryz.prog 9 #[.agg #[x, y], v] w (MakesRats (Py.vec g xs) w) := by
 obtain ⟨gn, gv⟩ := g
 obtain ⟨a, c, rfl, rfl, hi⟩ := h
 obtain ⟨W, hW⟩ : ∃ W, W = w.alloc (.cells #[.int .i64 gn, .slice a gv.length c] 26) := ⟨_, rfl⟩
 have hb := (Below.refl w.heap.size w).alloc (Nat.le_refl _) (.cells #[.int .i64 gn, .slice a gv.length c] 26)
 rw [← hW] at hb
 have HX := zH (show GmC W (.int .i64 gn) (.slice a gv.length c) ⟨gn, gv⟩ from GmC.up ⟨a, c, rfl, rfl, hi⟩ hb)
 have HV := zH (hv.up hb)
 have hlv : gv.length ≤ 1048576 := hf.1
 have HW := zH hW
 have HB := zH hb
 have HF := zH hf
 have hlo := hb.size
 have hll := Py.lst_len ⟨gn, gv⟩ xs
 have Hvl := zH (Py.lst_vld ⟨gn, gv⟩ xs)
 rw [show Py.vec ⟨gn, gv⟩ xs = Py.srt (Py.lst ⟨gn, gv⟩ xs) (Py.lst ⟨gn, gv⟩ xs).length from rfl]
 clear hW hb hv hi hf
 go_enter Tryz.func9, Tryz.ntmps9
 go_wp2_with fail
 rw [← HW.out]
 refine (impl_partExcesses HX.out HV.out HF.out hx).mono ?_
 rintro e w1 ⟨u, rfl, ho, hb1⟩
 generalize Py.lst ⟨gn, gv⟩ xs = l at *
 have HS := zH (impl_sortDescending ho hb1.size Hvl.out (by omega))
 have HB1 := zH (HB.out.trans (hb1.mono hlo))
 obtain ⟨al, cl, rfl⟩ : ∃ (a : Option Addr) (c : Nat), u = .slice a l.length c := by obtain ⟨a, c, e, _⟩ := own_rats ho; exact ⟨a, c, e⟩
 clear ho hb1 HX HV HF Hvl
 generalize Py.srt l l.length = z at *
 go_wp2_with fail
 refine HS.out.mono ?_
 rintro e w2 ⟨rfl, ho2, hb2⟩
 have HO2 := zH (OwnRats.lower ho2 hlo)
 have HB2 := zH (HB1.out.trans (hb2.mono hlo))
 clear ho2 hb2 HS
 go_wp2_with fail
 go_ret
 exact ⟨_, rfl, HO2.out, HB2.out⟩
end Go.Proofs.YtpidlmmpejoeaaaGreat
