/- impl's textLines, readPlayers, readValue, readGame, ParseGame; conditions: what strconv, the library's search and errors.As read is laid. -/
import Derived.Test.YtambneapofaclaaGreatDoorGtC
import Derived.Test.YtambneapofaclaaGreatDoorGtP
import Derived.Test.YtambneapofaclaaGreatDoorAsE
import Derived.Test.YtambneapofaclaaGreatDoorIntB
import Derived.Test.YtambneapofaclaaGreatDoorImSplit
namespace Go.Proofs.YtambneapofaclaaGreatDoor
open Go.RowKit
open Gm (G G0)
theorem var_same {w w' : World} {n : String} {cs : Array Value} {g : Nat} (hg : Tryz.prog.globalNamed n = some g) (h : w.var? Tryz.prog n = some cs) (hk : ∀ k, 0 ≤ k → k < w.heap.size → w'.heap[k]? = w.heap[k]?) : w'.var? Tryz.prog n = some cs := by
  unfold World.var? at h ⊢
  rw [hg] at h ⊢
  simp only [Option.bind_some] at h ⊢
  have hlt : g < w.heap.size := by
    rcases Nat.lt_or_ge g w.heap.size with h' | h'
    · exact h'
    · rw [Array.getElem?_eq_none h'] at h; cases h
  rw [hk _ (Nat.zero_le _) hlt]
  exact h
theorem cell_same {w w' : World} {p : Addr} {v : Value} (h : w.cell? p = some v) (hk : ∀ k, 0 ≤ k → k < w.heap.size → w'.heap[k]? = w.heap[k]?) : w'.cell? p = some v := by
  rw [World.cell?_of_block (w := w) (hk _ (Nat.zero_le _) (World.block_lt_of_cell? w p h))]; exact h
/-- What the library reads of package variables. -/
structure Env (w : World) : Prop where
  tabs : Tabs w
  mx : MaxLenAt w
  er : ErrAt w
theorem Env.below {w w' : World} (h : Env w) (hb : Below w.heap.size w w') : Env w' :=
  ⟨h.tabs.below hb, h.mx.below hb, by
    have h1 := h.er
    unfold ErrAt at h1 ⊢
    rw [hb.cell (p := ⟨0, 0, none⟩) (World.block_lt_of_cell? w _ h1)]; exact h1⟩
theorem Env.rg {w : World} (h : Env w) : Rg (fun w' => Env w') 0 w.heap.size w :=
  ⟨h, Nat.le_refl _, fun w' _ hk => ⟨⟨var_same gPow h.tabs.pow hk, by obtain ⟨t, p, e⟩ := h.tabs.syn; exact ⟨t, p, var_same gSyn e hk⟩, by obtain ⟨t, p, e⟩ := h.tabs.rng; exact ⟨t, p, var_same gRng e hk⟩⟩,
    by obtain ⟨m, hm⟩ := h.mx; exact ⟨m, cell_same hm hk⟩, cell_same h.er hk⟩⟩
/-- An error: none, or the one of a line. -/
def errV : Option Int → Value
  | none => .nilIface
  | some k => .iface 46 (.agg #[.int .i64 k])
def MakesGmE (r : G × Option Int) (w : World) (e : Ending) (w' : World) : Prop := (∃ x y : Value, e = .returned (.tuple #[.agg #[x, y], errV r.2]) ∧ ResGm w.heap.size w'.heap.size w' (.agg #[x, y]) r.1) ∧ Below w.heap.size w w'
theorem impl_number (b : ByteArray) (hb : b.size ≤ 281474976710656) : ∃ (v : Int) (tw : Bool), ((tw = true ∧ Lib.itoa v = b.data.toList ∧ 0 ≤ v ∧ v ≤ 999999) ∨ (tw = false ∧ ∀ n : Int, 0 ≤ n → n ≤ 999999 → Lib.itoa n ≠ b.data.toList)) ∧
    ∀ w, Env w → Calls Tryz.prog 67 #[.string b] w fun e w' => e = .returned (.tuple #[.int .i64 v, .bool tw]) ∧ Below w.heap.size w w' := by
  by_cases h : ∃ n : Int, 0 ≤ n ∧ n ≤ 999999 ∧ Lib.itoa n = b.data.toList
  · obtain ⟨n, h0, h1, h2⟩ := h
    exact ⟨n, true, .inl ⟨rfl, h2, h0, h1⟩, fun w he => impl_ParseNumber_ok b n h2 h0 h1 w he.tabs⟩
  · have h3 : ∀ n : Int, 0 ≤ n → n ≤ 999999 → Lib.itoa n ≠ b.data.toList := fun n h0 h1 h2 => h ⟨n, h0, h1, h2⟩
    exact ⟨0, false, .inr ⟨rfl, h3⟩, fun w he => impl_ParseNumber_bad b h3 hb w he.tabs⟩
theorem impl_int (b : ByteArray) (hb : b.size ≤ 281474976710656) : ∃ (v : Int) (tw : Bool), ((tw = true ∧ Lib.itoa v = b.data.toList ∧ -999999999999 ≤ v ∧ v ≤ 999999999999) ∨ (tw = false ∧ ∀ n : Int, -999999999999 ≤ n → n ≤ 999999999999 → Lib.itoa n ≠ b.data.toList)) ∧
    ∀ w, Env w → Calls Tryz.prog 70 #[.string b] w fun e w' => e = .returned (.tuple #[.int .i64 v, .bool tw]) ∧ Below w.heap.size w w' := by
  by_cases h : ∃ n : Int, -999999999999 ≤ n ∧ n ≤ 999999999999 ∧ Lib.itoa n = b.data.toList
  · obtain ⟨n, h0, h1, h2⟩ := h
    exact ⟨n, true, .inl ⟨rfl, h2, h0, h1⟩, fun w he => impl_ParseInt_ok b n h2 h0 h1 w he.tabs⟩
  · have h3 : ∀ n : Int, -999999999999 ≤ n → n ≤ 999999999999 → Lib.itoa n ≠ b.data.toList := fun n h0 h1 h2 => h ⟨n, h0, h1, h2⟩
    exact ⟨0, false, .inr ⟨rfl, h3⟩, fun w he => impl_ParseInt_bad b h3 hb w he.tabs⟩
set_option maxRecDepth 100000 in
set_option maxHeartbeats 2000000 in
theorem impl_textLines (t : ByteArray) (ht : t.size ≤ 1048576) (w : World) (he : Env w) : Calls Tryz.prog 44 #[.string t] w (PartsPost (Gt.clines t) w) := by
  have HT : Hid (∀ w, Calls Tryz.prog 65 #[.string t, .string ⟨#[10]⟩] w fun e w' => e = .returned (.string (Gt.trim t)) ∧ w = w') := fun w =>
    (Tryz.strings_TrimSuffix t ⟨#[10]⟩ w (by omega)).mono fun e w' ⟨h1, h2⟩ => ⟨h1, h2.symm⟩
  have hz := Gt.trim_size t
  have HP : Hid (∀ w', Since w w' → Calls Tryz.prog 64 #[.string (Gt.trim t), .int .u8 10] w' fun e w'' => (∃ g, e = .returned (.slice (some ⟨g, 0, none⟩) (Gt.clines t).length (Gt.clines t).length) ∧ w''.heap[g]? = some (.cells ((Gt.clines t).map Value.string).toArray 9) ∧ w.heap.size ≤ g) ∧ Since w w'') := fun w' hs =>
    (impl_SplitByte (Gt.trim t) 10 (by omega) w' (he.mx.below hs.low)).mono fun e w2 ⟨g, h1, h2, h3, h4⟩ => ⟨⟨g, h1, h2, Nat.le_trans hs.low.size h3⟩, hs.trans h4⟩
  have hin := (Since.refl w).drew
  generalize Gt.clines t = ps at *
  generalize Gt.trim t = tt at *
  clear hz ht he
  go_enter Tryz.func44, Tryz.ntmps44
  go_upto_region 1 with fail
  go_cut [2] (fun v wx => ∃ g, v = .slice (some ⟨g, 0, none⟩) ps.length ps.length ∧ Hid (wx.heap[g]? = some (.cells (ps.map Value.string).toArray 9)) ∧ w.heap.size ≤ g ∧ Hid (Since w wx))
  case first =>
    go_region_held3 (fun w' => Since w w') (first | assumption | exact Since.drew (by assumption))
      (first | (go_at_call 65; refine (HT.out _).mono ?_; rintro e w' ⟨rfl, rfl⟩) | (go_at_call 64; refine (HP.out _ (by first | assumption | exact Since.drew (by assumption))).mono ?_; rintro e w' ⟨⟨g, rfl, hgc, hgl⟩, hin2⟩))
    all_goals
      go_wp2_with fail
      go_meet
      exact ⟨_, rfl, by assumption, by assumption, by assumption⟩
  case rest =>
    obtain ⟨g, rfl, hgc, hgl, hs⟩ := hcut
    clear hin HT HP
    go_wp2_with fail
    go_ret
    exact ⟨g, rfl, hgc.out, hgl, hs.out.low⟩
def firstE (r : Option Int) : G × Option Int := (firstG r, match r with | some _ => none | none => some 0)
set_option maxRecDepth 100000 in
set_option maxHeartbeats 4000000 in
theorem impl_readPlayers (l : ByteArray) (hl : l.size ≤ 1048576) (w : World) (he : Env w) : Calls Tryz.prog 45 #[.string l] w (MakesGmE (firstE (Gt.rdFirst l)) w) := by
  obtain ⟨W, hW⟩ : ∃ W, W = w.alloc (.cells #[.int .i64 0, .slice none 0 0] 26) := ⟨_, rfl⟩
  have HC0 := Lib.hid (show CellsAt W w.heap.size #[.int .i64 0, .slice none 0 0] 26 from by rw [hW]; exact CellsAt.new _ _ _)
  have HB0 := Lib.hid (show Below w.heap.size w W from by rw [hW]; exact (Below.refl _ _).alloc (Nat.le_refl _) _)
  have HW := Lib.hid hW
  have hWs : W.heap.size = w.heap.size + 1 := by rw [hW]; exact size1 _ _
  have HWs := Lib.hid hWs
  have HEn := Lib.hid he
  clear hW hWs he
  obtain ⟨nb, hnb⟩ : ∃ nb : ByteArray, nb = ⟨(Lib.trimPrefix l.data.toList Gt.pre8).toArray⟩ := ⟨_, rfl⟩
  obtain ⟨fd, hfd⟩ : ∃ fd, Lib.hasPrefix l.data.toList Gt.pre8 = fd := ⟨_, rfl⟩
  have HCP : Hid (∀ w, Calls Tryz.prog 66 #[.string l, .string ⟨#[112, 108, 97, 121, 101, 114, 115, 32]⟩] w fun e w' => e = .returned (.tuple #[.string nb, .bool fd]) ∧ w = w') := fun w =>
    (Tryz.strings_CutPrefix l ⟨#[112, 108, 97, 121, 101, 114, 115, 32]⟩ w).mono fun e w' ⟨h1, h2⟩ => ⟨by rw [h1, hnb, ← hfd]; rfl, h2.symm⟩
  have hnd : nb.data.toList = Lib.trimPrefix l.data.toList Gt.pre8 := by rw [hnb]
  have hns : nb.size ≤ 281474976710656 := by
    have h1 : nb.data.toList.length ≤ l.data.toList.length := by
      rw [hnd]
      unfold Lib.trimPrefix
      split
      · rw [List.length_drop]; omega
      · exact Nat.le_refl _
    rw [← Lib.size_eq, ← Lib.size_eq] at h1
    omega
  obtain ⟨v, tw, hv, hPn⟩ := impl_number nb hns
  have HPn := Lib.hid hPn
  clear hPn hns hnb
  cases fd with
  | false =>
    have Hr := Lib.hid (show ((G0, some 0) : G × Option Int) = firstE (Gt.rdFirst l) by rw [Gt.first_nopre hfd]; rfl)
    generalize firstE (Gt.rdFirst l) = R at *
    clear hnd
    go_enter Tryz.func45, Tryz.ntmps45
    go_wp2_with fail
    rw [← HW.out]
    refine (HCP.out _).mono ?_
    rintro e w1 ⟨rfl, rfl⟩
    go_wp2_with fail
    refine (HPn.out _ (HEn.out.below HB0.out)).mono ?_
    rintro e w2 ⟨rfl, k⟩
    have HB2 := Lib.hid (HB0.out.trans (k.mono HB0.out.size))
    have HC2 := Lib.hid (HC0.out.below k)
    clear k HB0 HC0 HPn HCP HW HWs
    have HR := Lib.hid ((HC2.out.s0 (.int .i64 0)).s1 (.slice none 0 0))
    have HBz := Lib.hid ((HB2.out.setCell (p := ⟨w.heap.size, 0, none⟩) (by simp only; omega) (.int .i64 0)).setCell (p := ⟨w.heap.size, 1, none⟩) (by simp only; omega) (.slice none 0 0))
    obtain ⟨d0, d1, e0, e1⟩ := two' HC2.out
    go_wp2_with fail
    refine bodyPost_ret (v := .tuple #[.agg #[.int .i64 0, .slice none 0 0], .iface 46 (.agg #[.int .i64 0])]) (by
      obtain ⟨z0, z1⟩ := two HR.out
      revert z0 z1
      generalize ((w2.setCell ⟨w.heap.size, 0, none⟩ (.int .i64 0)).setCell ⟨w.heap.size, 1, none⟩ (.slice none 0 0)) = W4
      intro z0 z1
      simp [results, Tryz.results45, go_sem, z0, z1]) rfl ⟨⟨_, _, by rw [← Hr.out]; rfl, by rw [← Hr.out]; exact ResGm.zero _ _⟩, HBz.out⟩
  | true =>
    have hlb := Gt.trim_pre hfd
    rw [← hnd] at hlb
    rcases hv with ⟨rfl, hv1, hv2, hv3⟩ | ⟨rfl, hv1⟩
    · by_cases h1 : v < 1
      · have q1 : decide (v < 1) = true := decide_eq_true h1
        have Hr := Lib.hid (show ((G0, some 0) : G × Option Int) = firstE (Gt.rdFirst l) by rw [Gt.first_bad hlb (fun n n1 n2 e => by rw [← hv1] at e; have := Dec.itoa_inj e; omega)]; rfl)
        generalize firstE (Gt.rdFirst l) = R at *
        clear hnd
        go_enter Tryz.func45, Tryz.ntmps45
        go_wp2_with fail
        rw [← HW.out]
        refine (HCP.out _).mono ?_
        rintro e w1 ⟨rfl, rfl⟩
        go_wp2_with fail
        refine (HPn.out _ (HEn.out.below HB0.out)).mono ?_
        rintro e w2 ⟨rfl, k⟩
        have HB2 := Lib.hid (HB0.out.trans (k.mono HB0.out.size))
        have HC2 := Lib.hid (HC0.out.below k)
        clear k HB0 HC0 HPn HCP HW HWs
        have HR := Lib.hid ((HC2.out.s0 (.int .i64 0)).s1 (.slice none 0 0))
        have HBz := Lib.hid ((HB2.out.setCell (p := ⟨w.heap.size, 0, none⟩) (by simp only; omega) (.int .i64 0)).setCell (p := ⟨w.heap.size, 1, none⟩) (by simp only; omega) (.slice none 0 0))
        obtain ⟨d0, d1, e0, e1⟩ := two' HC2.out
        go_wp2_with fail
        refine bodyPost_ret (v := .tuple #[.agg #[.int .i64 0, .slice none 0 0], .iface 46 (.agg #[.int .i64 0])]) (by
          obtain ⟨z0, z1⟩ := two HR.out
          revert z0 z1
          generalize ((w2.setCell ⟨w.heap.size, 0, none⟩ (.int .i64 0)).setCell ⟨w.heap.size, 1, none⟩ (.slice none 0 0)) = W4
          intro z0 z1
          simp [results, Tryz.results45, go_sem, z0, z1]) rfl ⟨⟨_, _, by rw [← Hr.out]; rfl, by rw [← Hr.out]; exact ResGm.zero _ _⟩, HBz.out⟩
      · have q1 : decide (v < 1) = false := decide_eq_false h1
        by_cases h5 : 5 < v
        · have q2 : decide (v > 5) = true := decide_eq_true h5
          have Hr := Lib.hid (show ((G0, some 0) : G × Option Int) = firstE (Gt.rdFirst l) by rw [Gt.first_bad hlb (fun n n1 n2 e => by rw [← hv1] at e; have := Dec.itoa_inj e; omega)]; rfl)
          generalize firstE (Gt.rdFirst l) = R at *
          clear hnd
          go_enter Tryz.func45, Tryz.ntmps45
          go_wp2_with fail
          rw [← HW.out]
          refine (HCP.out _).mono ?_
          rintro e w1 ⟨rfl, rfl⟩
          go_wp2_with fail
          refine (HPn.out _ (HEn.out.below HB0.out)).mono ?_
          rintro e w2 ⟨rfl, k⟩
          have HB2 := Lib.hid (HB0.out.trans (k.mono HB0.out.size))
          have HC2 := Lib.hid (HC0.out.below k)
          clear k HB0 HC0 HPn HCP HW HWs
          have HR := Lib.hid ((HC2.out.s0 (.int .i64 0)).s1 (.slice none 0 0))
          have HBz := Lib.hid ((HB2.out.setCell (p := ⟨w.heap.size, 0, none⟩) (by simp only; omega) (.int .i64 0)).setCell (p := ⟨w.heap.size, 1, none⟩) (by simp only; omega) (.slice none 0 0))
          obtain ⟨d0, d1, e0, e1⟩ := two' HC2.out
          go_wp2_with fail
          refine bodyPost_ret (v := .tuple #[.agg #[.int .i64 0, .slice none 0 0], .iface 46 (.agg #[.int .i64 0])]) (by
            obtain ⟨z0, z1⟩ := two HR.out
            revert z0 z1
            generalize ((w2.setCell ⟨w.heap.size, 0, none⟩ (.int .i64 0)).setCell ⟨w.heap.size, 1, none⟩ (.slice none 0 0)) = W4
            intro z0 z1
            simp [results, Tryz.results45, go_sem, z0, z1]) rfl ⟨⟨_, _, by rw [← Hr.out]; rfl, by rw [← Hr.out]; exact ResGm.zero _ _⟩, HBz.out⟩
        · have q2 : decide (v > 5) = false := decide_eq_false h5
          obtain ⟨m, rfl⟩ : ∃ m : Nat, v = m := ⟨v.toNat, by omega⟩
          have Hr := Lib.hid (show ((⟨(m : Int), List.replicate (2 ^ m) 0⟩, none) : G × Option Int) = firstE (Gt.rdFirst l) by rw [Gt.first_yes hlb (by omega) (by omega) hv1]; rfl)
          have hm5 : m ≤ 5 := by omega
          have hm1 : 1 ≤ m := by omega
          have hp1 : 1 ≤ 2 ^ m := Nat.one_le_two_pow
          have hp32 : 2 ^ m ≤ 32 := Nat.pow_le_pow_right (by omega) hm5
          have HCC := Lib.hid (fun w => impl_CountCoalitions m hm5 w)
          obtain ⟨i0, hi, hz0, hz1, hz2⟩ := info_parts info_int
          have HI := Lib.hid hi
          have HZ0 := Lib.hid hz0
          have HZ1 := Lib.hid hz1
          generalize 2 ^ m = N at *
          have Hby : Hid (i0.bytes * N ≤ 281474976710656) := by show _ ≤ _; rw [hz2]; omega
          clear hi hz0 hz1 hz2 hv1 hlb hnd
          generalize firstE (Gt.rdFirst l) = R at *
          go_enter Tryz.func45, Tryz.ntmps45
          go_wp2_with fail
          rw [← HW.out]
          refine (HCP.out _).mono ?_
          rintro e w1 ⟨rfl, rfl⟩
          go_wp2_with fail
          refine (HPn.out _ (HEn.out.below HB0.out)).mono ?_
          rintro e w2 ⟨rfl, k⟩
          have HB2 := Lib.hid (HB0.out.trans (k.mono HB0.out.size))
          have HC2 := Lib.hid (HC0.out.below k)
          clear k HB0 HC0 HPn HCP HW HWs
          go_wp2_with fail
          refine (HCC.out _).mono ?_
          rintro e w3 ⟨rfl, rfl⟩
          have hsz2 := HB2.out.size
          go_wp2_with (refine wpList_make_full _ rfl _ _ 24 rfl w.heap.size 3 i0 (.int .i64 0) 1 Tryz.underlying24 HI.out HZ0.out HZ1.out _ _ _ _ N rfl rfl rfl rfl Hby.out ?c1 (by omega) ?_)
          case c1 => unfold maxLen; omega
          intro w4 hown hgrow
          rw [gt_made] at hown
          have hown1 : OwnInts w.heap.size w4 (.slice (some ⟨w2.heap.size, 0, none⟩) N N) (List.replicate N 0) := by unfold OwnInts; rw [List.length_replicate]; exact hown
          have HB4 := Lib.hid (HB2.out.grown hgrow hsz2 (fun g hg => by cases hg))
          have HC4 := Lib.hid (HC2.out.below ((Below.refl w2.heap.size w2).grown hgrow (Nat.le_refl _) (fun g hg => by cases hg)))
          have hne2 : (Value.slice (some ⟨w2.heap.size, 0, none⟩) N N).ownBlock ≠ some w.heap.size := own_away hown1 HC4.out.ty (by decide)
          have HY := Lib.hid (owns_set (i := 1) (u := .slice (some ⟨w2.heap.size, 0, none⟩) N N) (owns_set (i := 0) (u := .int .i64 m) hown1 hne2) hne2)
          clear hown hgrow hown1 hne2 HB2 HC2 hsz2 HCC
          generalize w2.heap.size = b2 at *
          have HR := Lib.hid ((HC4.out.s0 (.int .i64 m)).s1 (.slice (some ⟨b2, 0, none⟩) N N))
          have HBz := Lib.hid ((HB4.out.setCell (p := ⟨w.heap.size, 0, none⟩) (by simp only; omega) (.int .i64 m)).setCell (p := ⟨w.heap.size, 1, none⟩) (by simp only; omega) (.slice (some ⟨b2, 0, none⟩) N N))
          obtain ⟨d0, d1, e0, e1⟩ := two' HC4.out
          go_wp2_with fail
          refine bodyPost_ret (v := .tuple #[.agg #[.int .i64 m, .slice (some ⟨b2, 0, none⟩) N N], .nilIface]) (by
            obtain ⟨z0, z1⟩ := two HR.out
            revert z0 z1
            generalize ((w4.setCell ⟨w.heap.size, 0, none⟩ (.int .i64 m)).setCell ⟨w.heap.size, 1, none⟩ (.slice (some ⟨b2, 0, none⟩) N N)) = W4
            intro z0 z1
            simp [results, Tryz.results45, go_sem, z0, z1]) rfl ⟨⟨_, _, by rw [← Hr.out]; rfl, by rw [← Hr.out]; exact ResGm.of_own' (g := ⟨(m : Int), List.replicate N 0⟩) rfl HY.out⟩, HBz.out⟩
    · have hbad : ∀ n : Int, 1 ≤ n → n ≤ 5 → Lib.itoa n ≠ nb.data.toList := fun n n1 n2 => hv1 n (by omega) (by omega)
      have Hr := Lib.hid (show ((G0, some 0) : G × Option Int) = firstE (Gt.rdFirst l) by rw [Gt.first_bad hlb hbad]; rfl)
      generalize firstE (Gt.rdFirst l) = R at *
      clear hnd
      go_enter Tryz.func45, Tryz.ntmps45
      go_wp2_with fail
      rw [← HW.out]
      refine (HCP.out _).mono ?_
      rintro e w1 ⟨rfl, rfl⟩
      go_wp2_with fail
      refine (HPn.out _ (HEn.out.below HB0.out)).mono ?_
      rintro e w2 ⟨rfl, k⟩
      have HB2 := Lib.hid (HB0.out.trans (k.mono HB0.out.size))
      have HC2 := Lib.hid (HC0.out.below k)
      clear k HB0 HC0 HPn HCP HW HWs
      have HR := Lib.hid ((HC2.out.s0 (.int .i64 0)).s1 (.slice none 0 0))
      have HBz := Lib.hid ((HB2.out.setCell (p := ⟨w.heap.size, 0, none⟩) (by simp only; omega) (.int .i64 0)).setCell (p := ⟨w.heap.size, 1, none⟩) (by simp only; omega) (.slice none 0 0))
      obtain ⟨d0, d1, e0, e1⟩ := two' HC2.out
      go_wp2_with fail
      refine bodyPost_ret (v := .tuple #[.agg #[.int .i64 0, .slice none 0 0], .iface 46 (.agg #[.int .i64 0])]) (by
        obtain ⟨z0, z1⟩ := two HR.out
        revert z0 z1
        generalize ((w2.setCell ⟨w.heap.size, 0, none⟩ (.int .i64 0)).setCell ⟨w.heap.size, 1, none⟩ (.slice none 0 0)) = W4
        intro z0 z1
        simp [results, Tryz.results45, go_sem, z0, z1]) rfl ⟨⟨_, _, by rw [← Hr.out]; rfl, by rw [← Hr.out]; exact ResGm.zero _ _⟩, HBz.out⟩
theorem itoa_ne (v : Int) : ¬ Lib.itoa v = [] := by
  intro e
  rcases Int.lt_trichotomy v 0 with h | h | h
  · rw [Dec.itoa_neg h] at e; cases e
  · rw [h, Dec.itoa_zero] at e; cases e
  · rw [Dec.itoa_pos h] at e; exact Dec.decDigits_ne _ e
theorem impl_isWithin_k (v : Int) (b : Bool) (h : decide (-500 ≤ v ∧ v ≤ 500) = b) (w : World) : Calls Tryz.prog 61 #[.int .i64 v, .int .i64 500] w fun e w' => e = .returned (.bool b) ∧ w = w' := impl_isWithin v 500 b h (by decide) (by decide) w
set_option maxRecDepth 100000 in
set_option maxHeartbeats 8000000 in
theorem impl_readValue (l : ByteArray) (hl : l.size ≤ 1048576) (w : World) (he : Env w) : Calls Tryz.prog 46 #[.string l] w (LinePost (Gt.rdLine l) (Gt.rdLine l).isSome w) := by
  have HEn := Lib.hid he
  obtain ⟨mx, hmx⟩ := he.mx
  have HMx := Lib.hid hmx
  have HL := Lib.hid hl
  clear he hmx
  have hlen : l.data.toList.length ≤ 1048576 := by rw [← Lib.size_eq]; exact hl
  obtain ⟨a, b, f, hab, hcase⟩ : ∃ (a b : List UInt8) (f : Bool), Lib.cut l.data.toList [32] = (a, b, f) ∧ ((f = false ∧ b = [] ∧ (32 : UInt8) ∉ l.data.toList) ∨ (f = true ∧ l.data.toList = a ++ 32 :: b ∧ (32 : UInt8) ∉ a)) := by
    rcases Gt.blank_or l.data.toList with h | ⟨a, b, h1, h2⟩
    · exact ⟨_, _, _, Gt.cut_miss h, .inl ⟨rfl, rfl, h⟩⟩
    · exact ⟨_, _, _, by rw [h1]; exact Gt.cut_hit h2, .inr ⟨rfl, h1, h2⟩⟩
  have HCut : Hid (∀ w, w.cell? ⟨1, 0, none⟩ = some (.int .i64 mx) → Calls Tryz.prog 68 #[.string l, .string ⟨#[32]⟩] w fun e w' => e = .returned (.tuple #[.string ⟨a.toArray⟩, .string ⟨b.toArray⟩, .bool f]) ∧ ∃ d, w' = w.drewN d) := fun w hm => by
    have h1 := Tryz.strings_Cut l ⟨#[32]⟩ mx w (by omega) hm
    rw [show (ByteArray.mk #[32]).data.toList = [32] from rfl, hab] at h1
    exact h1
  have hbl : b.length ≤ 1048576 := by
    rcases hcase with ⟨_, h, _⟩ | ⟨_, h, _⟩
    · rw [h]; simp
    · rw [h] at hlen; simp at hlen; omega
  have hbs : (⟨b.toArray⟩ : ByteArray).size ≤ 281474976710656 := by show b.toArray.size ≤ _; simp; omega
  have hbd : (⟨b.toArray⟩ : ByteArray).data.toList = b := by simp
  obtain ⟨v, tw, hv, hPi⟩ := impl_int ⟨b.toArray⟩ hbs
  rw [hbd] at hv
  obtain ⟨r1, hr1⟩ := parse_some ⟨a.toArray⟩
  have HPi := Lib.hid hPi
  have HPc := Lib.hid (fun w => impl_ParseCoalition ⟨a.toArray⟩ r1 hr1 w)
  clear hPi hbs hbd hlen hbl hab hl
  rcases hr1 with ⟨n, hn, rfl⟩ | ⟨hn, rfl⟩
  · have hn32 := hn.1
    rcases hv with ⟨rfl, hv1, hv2, hv3⟩ | ⟨rfl, hv1⟩
    · by_cases hf : f = true
      · obtain ⟨hl1, ha1⟩ : l.data.toList = a ++ 32 :: b ∧ (32 : UInt8) ∉ a := by
          rcases hcase with ⟨h, _, _⟩ | ⟨_, h1, h2⟩
          · rw [h] at hf; cases hf
          · exact ⟨h1, h2⟩
        have hL := Gt.line_both2 hl1 ha1 hn32 hn.2.1 hv1
        rw [hL]
        clear hL hv1 hn hl1 ha1 hcase hf
        rcases h3 : (v != 0) with _ | _
        · have hE : (if v ≠ 0 ∧ -500 ≤ v ∧ v ≤ 500 then some (n, v) else none) = none := if_neg (fun h => h.1 (by simpa using h3))
          rw [hE]
          clear hE
          go_enter Tryz.func46, Tryz.ntmps46
          go_wp2_with fail
          refine (HCut.out _ HMx.out).mono ?_
          rintro e w1 ⟨rfl, d, rfl⟩
          have HB1 := Lib.hid (below_drewN (Below.refl w.heap.size w) d)
          go_wp2_with fail
          refine (HPc.out _).mono ?_
          rintro e w2 ⟨rfl, k⟩
          have HB2 := Lib.hid (HB1.out.trans (k.mono HB1.out.size))
          clear k HB1 HPc HCut
          go_wp2_with fail
          refine (HPi.out _ (HEn.out.below HB2.out)).mono ?_
          rintro e w3 ⟨rfl, k⟩
          have HB3 := Lib.hid (HB2.out.trans (k.mono HB2.out.size))
          clear k HB2 HPi
          go_wp2_with fail
          go_ret3
          exact ⟨n, v, rfl, (fun h => by cases h), HB3.out⟩
        · obtain ⟨bb, hbb⟩ : ∃ bb, decide (-500 ≤ v ∧ v ≤ 500) = bb := ⟨_, rfl⟩
          have hvz : v ≠ 0 := by simpa using h3
          have hE : (if v ≠ 0 ∧ -500 ≤ v ∧ v ≤ 500 then some (n, v) else none) = (if bb = true then some (n, v) else none) := by
            rw [← hbb]
            by_cases hc : -500 ≤ v ∧ v ≤ 500
            · rw [if_pos ⟨hvz, hc⟩, if_pos (decide_eq_true hc)]
            · rw [if_neg (fun h => hc h.2), if_neg (by simpa using hc)]
          rw [hE]
          have HWi := Lib.hid (fun w => impl_isWithin_k v bb hbb w)
          clear hE hvz hbb
          cases bb with
          | false =>
            rw [show (if false = true then some (n, v) else none) = none from rfl]
            go_enter Tryz.func46, Tryz.ntmps46
            go_wp2_with fail
            refine (HCut.out _ HMx.out).mono ?_
            rintro e w1 ⟨rfl, d, rfl⟩
            have HB1 := Lib.hid (below_drewN (Below.refl w.heap.size w) d)
            go_wp2_with fail
            refine (HPc.out _).mono ?_
            rintro e w2 ⟨rfl, k⟩
            have HB2 := Lib.hid (HB1.out.trans (k.mono HB1.out.size))
            clear k HB1 HPc HCut
            go_wp2_with fail
            refine (HPi.out _ (HEn.out.below HB2.out)).mono ?_
            rintro e w3 ⟨rfl, k⟩
            have HB3 := Lib.hid (HB2.out.trans (k.mono HB2.out.size))
            clear k HB2 HPi
            go_wp2_with fail
            refine (HWi.out _).mono ?_
            rintro e w4 ⟨rfl, rfl⟩
            go_wp2_with fail
            go_ret3
            exact ⟨n, v, rfl, (fun h => by cases h), HB3.out⟩
          | true =>
            rw [show (if true = true then some (n, v) else none) = some (n, v) from rfl]
            go_enter Tryz.func46, Tryz.ntmps46
            go_wp2_with fail
            refine (HCut.out _ HMx.out).mono ?_
            rintro e w1 ⟨rfl, d, rfl⟩
            have HB1 := Lib.hid (below_drewN (Below.refl w.heap.size w) d)
            go_wp2_with fail
            refine (HPc.out _).mono ?_
            rintro e w2 ⟨rfl, k⟩
            have HB2 := Lib.hid (HB1.out.trans (k.mono HB1.out.size))
            clear k HB1 HPc HCut
            go_wp2_with fail
            refine (HPi.out _ (HEn.out.below HB2.out)).mono ?_
            rintro e w3 ⟨rfl, k⟩
            have HB3 := Lib.hid (HB2.out.trans (k.mono HB2.out.size))
            clear k HB2 HPi
            go_wp2_with fail
            refine (HWi.out _).mono ?_
            rintro e w4 ⟨rfl, rfl⟩
            go_wp2_with fail
            go_ret3
            exact ⟨n, v, rfl, (fun _ => ⟨rfl, by omega⟩), HB3.out⟩
      · have hf2 : f = false := by simpa using hf
        have hbn : b = [] := by
          rcases hcase with ⟨_, h, _⟩ | ⟨h, _, _⟩
          · exact h
          · rw [h] at hf2; cases hf2
        rw [hbn] at hv1
        exact absurd hv1 (itoa_ne v)
    · have HE : Gt.rdLine l = none := by
        rcases hcase with ⟨_, _, h⟩ | ⟨_, h1, h2⟩
        · exact Gt.line_noblank h
        · exact Gt.line_nonum2 h1 h2 hv1
      rw [HE]
      clear HE hcase hv1 hn
      go_enter Tryz.func46, Tryz.ntmps46
      go_wp2_with fail
      refine (HCut.out _ HMx.out).mono ?_
      rintro e w1 ⟨rfl, d, rfl⟩
      have HB1 := Lib.hid (below_drewN (Below.refl w.heap.size w) d)
      go_wp2_with fail
      refine (HPc.out _).mono ?_
      rintro e w2 ⟨rfl, k⟩
      have HB2 := Lib.hid (HB1.out.trans (k.mono HB1.out.size))
      clear k HB1 HPc HCut
      go_wp2_with fail
      refine (HPi.out _ (HEn.out.below HB2.out)).mono ?_
      rintro e w3 ⟨rfl, k⟩
      have HB3 := Lib.hid (HB2.out.trans (k.mono HB2.out.size))
      clear k HB2 HPi
      go_wp2_with fail
      go_ret3
      exact ⟨n, v, rfl, (fun h => by cases h), HB3.out⟩
  · have HE : Gt.rdLine l = none := by
      rcases hcase with ⟨_, _, h⟩ | ⟨_, h1, h2⟩
      · exact Gt.line_noblank h
      · exact Gt.line_noword2 h1 h2 hn
    rw [HE]
    clear HE hcase hv hn
    go_enter Tryz.func46, Tryz.ntmps46
    go_wp2_with fail
    refine (HCut.out _ HMx.out).mono ?_
    rintro e w1 ⟨rfl, d, rfl⟩
    have HB1 := Lib.hid (below_drewN (Below.refl w.heap.size w) d)
    go_wp2_with fail
    refine (HPc.out _).mono ?_
    rintro e w2 ⟨rfl, k⟩
    have HB2 := Lib.hid (HB1.out.trans (k.mono HB1.out.size))
    clear k HB1 HPc HCut
    go_wp2_with fail
    refine (HPi.out _ (HEn.out.below HB2.out)).mono ?_
    rintro e w3 ⟨rfl, k⟩
    have HB3 := Lib.hid (HB2.out.trans (k.mono HB2.out.size))
    clear k HB2 HPi
    go_wp2_with fail
    go_ret3
    exact ⟨0, v, rfl, (fun h => by cases h), HB3.out⟩
end Go.Proofs.YtambneapofaclaaGreatDoor
