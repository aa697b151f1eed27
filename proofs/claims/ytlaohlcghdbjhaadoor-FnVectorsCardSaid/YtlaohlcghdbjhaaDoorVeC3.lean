/- The specification's IntsToRats. -/
import Derived.Test.YtlaohlcghdbjhaaDoorVeC2
namespace Go.Proofs.YtlaohlcghdbjhaaDoor
open Go.RowKit
open Ve (R)
/-- The slice at a reads as the ints zs; its block lies below B. -/
def NumsIn (B : Nat) (w : World) (a : Option Addr) (zs : List Int) : Prop := ∀ j, j < zs.length → ∃ b o : Nat, a = some ⟨b, o, none⟩ ∧ b < B ∧ w.cell? ⟨b, o + j, none⟩ = some (.int .i64 (zs.getD j 0))
theorem NumsIn.below {B : Nat} {w w' : World} {a : Option Addr} {zs : List Int} (h : NumsIn B w a zs) (hb : Below B w w') : NumsIn B w' a zs := fun j hj => by
  obtain ⟨b, o, h1, h2, h3⟩ := h j hj
  exact ⟨b, o, h1, h2, by rw [hb.cell (p := ⟨b, o + j, none⟩) h2]; exact h3⟩
theorem NumsIn.mono {B B' : Nat} {w : World} {a : Option Addr} {zs : List Int} (h : NumsIn B w a zs) (hB : B ≤ B') : NumsIn B' w a zs := fun j hj => by
  obtain ⟨b, o, h1, h2, h3⟩ := h j hj
  exact ⟨b, o, h1, by omega, h3⟩
theorem NumsIn.of_ints {B : Nat} {w : World} {a : Option Addr} {zs : List Int} (h : IntsIn w a zs) (ha : ∀ p, a = some p → p.block < B) : NumsIn B w a zs := fun j hj => by
  obtain ⟨b, o, h1, h2⟩ := h j _ (List.getElem?_eq_getElem hj)
  refine ⟨b, o, h1, ha ⟨b, o, none⟩ h1, ?_⟩
  rw [List.getD_eq_getElem?_getD, List.getElem?_eq_getElem hj]
  exact h2
set_option maxRecDepth 100000 in
set_option maxHeartbeats 4000000 in
theorem spec_IntsToRats (B : Nat) (a : Option Addr) (c : Nat) (zs : List Int) (hn : zs.length ≤ 1048576) (w : World) (hBw : B ≤ w.heap.size) (h1 : NumsIn B w a zs) :
    Calls Tryd.prog 15 #[.slice a zs.length c] w (MakesRatsK (Ve.outR (Ve.ofI zs) zs.length) (Ve.allK (Ve.ofI zs) zs.length) w) := by
  obtain ⟨D, hD⟩ : ∃ D, Ve.outR (Ve.ofI zs) zs.length = D := ⟨_, rfl⟩
  obtain ⟨K, hK⟩ : ∃ K, Ve.allK (Ve.ofI zs) zs.length = K := ⟨_, rfl⟩
  rw [hD, hK]
  have HD := Lib.hid hD
  have HK := Lib.hid hK
  have H1 := Lib.hid (h1.mono hBw)
  obtain ⟨i0, hi, hz0, hz1, hz2⟩ := info_parts info_rat
  have HI := Lib.hid hi
  have HZ0 := Lib.hid hz0
  have HZ1 := Lib.hid hz1
  have HZ2 := Lib.hid hz2
  clear h1 hD hK hi hz0 hz1 hz2
  have HO1 : Hid (OwnRats w.heap.size (w.alloc (.cells #[] 26)) (.slice (some ⟨w.heap.size, 0, none⟩) 0 0) []) := World.ownsRow_made w #[] 0 (Nat.le_refl _) (Nat.zero_le _) rfl
  have HB1 := Lib.hid ((Below.refl w.heap.size w).alloc (Nat.le_refl _) (.cells #[] 26))
  go_enter Tryd.func15, Tryd.ntmps15
  go_wp2_with fail
  go_loopw [4, 5] (fun v i wr => ∃ k : Nat, k ≤ zs.length ∧ i = .int .i64 k ∧ Hid (OwnRats w.heap.size wr v (Ve.upto (Ve.ofI zs) k)) ∧ Hid (∀ j, j < k → (Ve.ofI zs j).2 = true) ∧ Hid (Below w.heap.size w wr)) (fun _ i _ => zs.length - (intOf i).toNat)
  case atStart => exact ⟨0, Nat.zero_le _, rfl, HO1, fun j hj => absurd hj (by omega), HB1⟩
  case round =>
    obtain ⟨k, hk, rfl, hO, hA, hB⟩ := hrel
    by_cases hlt : k < zs.length
    · obtain ⟨b, o, rfl, l1, p0⟩ := (H1.out.below hB.out) k hlt
      have hsz := hB.out.size
      have HF := Lib.hid (Ve.inr_fits (zs.getD k 0))
      have HN := Lib.hid (show Ve.inr (zs.getD k 0) = true → Ve.ofI zs k = ((zs.getD k 0, 1), true) from fun h => by
        obtain ⟨e1, e2⟩ := Ve.inr_rn h
        show ((Ra.rn (zs.getD k 0) 1, Ra.rd (zs.getD k 0) 1), Ra.fits (zs.getD k 0) 1) = _
        rw [e1, e2, Ve.inr_fits, h])
      have HF2 := Lib.hid (show (Ve.ofI zs k).2 = Ve.inr (zs.getD k 0) from Ve.inr_fits _)
      rcases hv : Ve.inr (zs.getD k 0) with _ | _
      · have hE0 := Ve.allK_no (n := zs.length) hlt (HF2.out.trans hv)
        have hE1 := Ve.out_no hE0
        rw [HD.out] at hE1
        rw [HK.out] at hE0
        have HE1 := Lib.hid hE1
        have HE2 := Lib.hid hE0
        have Hv := Lib.hid (show decide (-1000000000 ≤ zs.getD k 0 ∧ zs.getD k 0 ≤ 1000000000) = false from hv)
        clear hE1 hE0 hv
        generalize zs.getD k 0 = z at *
        go_wp2_with fail
        refine (spec_l1In z _ _ false Hv.out _).mono ?_
        rintro e w1 ⟨rfl, rfl⟩
        go_wp2_with fail
        go_ret2
        refine ⟨_, ret_two HE2.out.symm, ?_, hB.out.alloc hsz _⟩
        rw [HE1.out]
        exact World.ownsRow_made _ #[] 0 hsz (Nat.zero_le _) rfl
      · have Hv := Lib.hid (show decide (-1000000000 ≤ zs.getD k 0 ∧ zs.getD k 0 ≤ 1000000000) = true from hv)
        have He := Lib.hid (show Ve.upto (Ve.ofI zs) (k + 1) = Ve.upto (Ve.ofI zs) k ++ [(zs.getD k 0, 1)] by rw [Ve.upto_succ, HN.out hv])
        have HA2 : Hid (∀ j, j < k + 1 → (Ve.ofI zs j).2 = true) := fun j hj => by
          by_cases e : j = k
          · subst e; rw [HF2.out, hv]
          · exact hA.out j (by omega)
        have hlen := Nat.le_of_eq (Ve.upto_len (Ve.ofI zs) k)
        clear hv
        generalize Ve.upto (Ve.ofI zs) k = ls at *
        generalize zs.getD k 0 = z at *
        go_wp2_with fail
        refine (spec_l1In z _ _ true Hv.out _).mono ?_
        rintro e w1 ⟨rfl, rfl⟩
        go_wp2_with fail
        refine (spec_l3Int z _).mono ?_
        rintro e w2 ⟨rfl, hb2⟩
        have HB2 := Lib.hid (hB.out.trans (hb2.mono hsz))
        have hsz2 := HB2.out.size
        have Hown := Lib.hid (World.ownsRow.alloc (hO.out.below hb2) (.cells #[.int .i64 z, .int .i64 1] 26))
        clear hb2
        go_wp2_with (at_builtin; refine wpList_append_own _ rfl _ _ 24 rfl w.heap.size 26 i0 (.agg #[.int .i64 0, .int .i64 0]) 2 16 Tryd.underlying24 HI.out HZ0.out HZ1.out HZ2.out rfl (by decide) _ _ _ rfl Hown.out ⟨w2.heap.size, 0, none⟩ 1 1 [.int .i64 z, .int .i64 1] rfl rfl ?c1 ?c2 ?c3 ?c4 ?c5 ?_)
        case c1 =>
          intro j u hj
          match j, hj with
          | 0, hj => simp at hj; subst hj; simp [Addr.add]
          | 1, hj => simp at hj; subst hj; simp [Addr.add]
        case c2 => intro u hu; simp at hu; rcases hu with rfl | rfl <;> rfl
        case c3 => unfold maxLen; omega
        case c4 => omega
        case c5 => simp; omega
        intro v' w3 hown' hgrow _
        have hne := Hown.out.lt
        have Ho1 := Lib.hid (OwnRats.more (x := (z, 1)) hown')
        have Hb1 := Lib.hid ((HB2.out.alloc hsz2 (.cells #[.int .i64 z, .int .i64 1] 26)).grown hgrow (by simp; omega) (fun g hg => (hne g hg).1))
        rw [← He.out] at Ho1
        clear hown' hgrow hne
        go_wp2_with fail
        go_roundw
        case rel => exact ⟨k + 1, by omega, by go_num, Ho1, HA2, Hb1⟩
        case measure => simp [intOf]; omega
    · have he : k = zs.length := by omega
      have HE : Hid (Ve.upto (Ve.ofI zs) k = D ∧ true = K) := by
        have h4 : Ve.allK (Ve.ofI zs) zs.length = true := by
          unfold Ve.allK
          rw [List.all_eq_true]
          exact fun j hj => hA.out j (by rw [he]; simpa using hj)
        have h3 := Ve.out_yes h4
        rw [HD.out] at h3
        rw [HK.out] at h4
        rw [he]
        exact ⟨h3.symm, h4.symm⟩
      clear he
      go_wp2_with fail
      go_ret2
      exact ⟨_, ret_two HE.out.2, (by rw [← HE.out.1]; exact hO.out), hB.out⟩
end Go.Proofs.YtlaohlcghdbjhaaDoor
