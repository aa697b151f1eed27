/- AddScaled's iterator. -/
import Derived.Test.YtlaohlcghdbjhaaDoorVeIt1
namespace Go.Proofs.YtlaohlcghdbjhaaDoor
open Go.RowKit Go.Shelf
open Ve (R)
attribute [local go_sem] Oper.semAt_some

/-- A box of a slice, the box of a fraction, a fraction. -/
def Five (p q : Nat) (u : R) (v : Value) (b2 k2 : Nat) (y : R) (B : World) : Prop :=
  (B.cell? ⟨p, 0, none⟩ = some (.int .i64 u.1) ∧ B.cell? ⟨p, 1, none⟩ = some (.int .i64 u.2) ∧ B.cell? ⟨q, 0, none⟩ = some v) ∧ (B.cell? ⟨b2, k2, none⟩ = some (.int .i64 y.1) ∧ B.cell? ⟨b2, k2 + 1, none⟩ = some (.int .i64 y.2)) ∧ p < B.heap.size ∧ q < B.heap.size ∧ b2 < B.heap.size
theorem Five.six {p q : Nat} {u : R} {v : Value} {b2 k2 : Nat} {y : R} {B wx : World} (H : Hid (Five p q u v b2 k2 y B)) (h : Since B wx) :
    wx.cell? ⟨p, 0, none⟩ = some (.int .i64 u.1) ∧ wx.cell? ⟨p, 1, none⟩ = some (.int .i64 u.2) ∧ wx.cell? ⟨q, 0, none⟩ = some v ∧ wx.cell? ⟨b2, k2, none⟩ = some (.int .i64 y.1) ∧ wx.cell? ⟨b2, k2 + 1, none⟩ = some (.int .i64 y.2) ∧ Since B wx :=
  ⟨h.cell (p := ⟨p, 0, none⟩) H.out.2.2.1 H.out.1.1, h.cell (p := ⟨p, 1, none⟩) H.out.2.2.1 H.out.1.2.1, h.cell (p := ⟨q, 0, none⟩) H.out.2.2.2.1 H.out.1.2.2, h.cell (p := ⟨b2, k2, none⟩) H.out.2.2.2.2 H.out.2.1.1, h.cell (p := ⟨b2, k2 + 1, none⟩) H.out.2.2.2.2 H.out.2.1.2, h⟩
/-- A round has run: whether it goes on. -/
def Went {α : Type} (n₀ lo hi : Nat) (J Jx : List α → World → Prop) (ys : List α) (W : World) (b : Bool) (W' : World) : Prop := (b = true ∧ J ys W' ∧ KeepR n₀ lo hi W W') ∨ (b = false ∧ Jx ys W')
set_option maxRecDepth 100000 in
set_option maxHeartbeats 8000000 in
theorem scaledSums1 (n : Nat) (hn : 1 ≤ n) (l Ba Bk Bb n₀ lo hi : Nat) (a1 a2 : Option Addr) (c1 c2 : Nat) (xs : List R) (u : R) (ys : List R) (hxy : xs.length ≤ ys.length) (hz : ys.length ≤ 1048576) (B0 : Nat) (J Jx : List (R × Bool) → World → Prop) (hJ : AbidesFrom B0 J)
    (hY : ∀ pre x W, J pre W → pre.length < xs.length → YieldAt Fence.wide (n - 1) Tryd.prog l (encP x) W fun e W' =>
      (e = .returned (.bool true) ∧ J (pre ++ [x]) W' ∧ KeepR n₀ lo hi W W') ∨ (e = .returned (.bool false) ∧ Jx (pre ++ [x]) W'))
    (W : World) (hn₀ : n₀ ≤ W.heap.size) (hhi : hi ≤ W.heap.size) (ha : lo ≤ Ba) (ha' : Ba < hi) (hk : lo ≤ Bk) (hk' : Bk < hi) (hb : lo ≤ Bb) (hb' : Bb < hi)
    (hBa : W.cell? ⟨Ba, 0, none⟩ = some (.slice a1 xs.length c1)) (hBk : BoxAt W Bk u) (hBb : W.cell? ⟨Bb, 0, none⟩ = some (.slice a2 ys.length c2)) (h1 : RatsIn n₀ W a1 xs) (h2 : RatsIn n₀ W a2 ys) (h0 : J [] W) :
    CallsIn Fence.wide n Tryd.prog 51 #[.func (.yield l) #[] #[], .pointer (some ⟨Ba, 0, none⟩), .pointer (some ⟨Bk, 0, none⟩), .pointer (some ⟨Bb, 0, none⟩)] W fun e W' => (∃ v, e = .returned v) ∧
      ((∃ zs, zs = seqF (Ve.sc xs u ys) xs.length ∧ J zs W') ∨ (∃ pre, (∃ k, k ≤ xs.length ∧ pre = seqF (Ve.sc xs u ys) k) ∧ Jx pre W')) := by
  have H1 := Lib.hid h1
  have H2 := Lib.hid h2
  have HY := Lib.hid hY
  have H0 := Lib.hid h0
  have HJ := Lib.hid hJ
  have HA := Lib.hid hBa
  have HB := Lib.hid hBb
  have HK := Lib.hid hBk
  have hmix : Tryd.prog.follows .mixedOrders = true := by kernel_rfl
  clear h1 h2 hY h0 hJ hBb hBk
  refine callsIn_of_wp Tryd.func51 rfl trivial ?_ rfl
  simp only [Tryd.ntmps51, List.size_toArray, List.length_cons, List.length_nil, Nat.reduceAdd, Nat.reduceSub, Array.replicate_succ, Array.replicate_zero, List.push_toArray, List.append_toArray, List.nil_append, List.cons_append]
  gi_wp2
  clear hBa
  gi_loopw [10] (fun i wr => ∃ k : Nat, k ≤ xs.length ∧ i = .int .i64 k ∧ Hid (J (seqF (Ve.sc xs u ys) k) wr) ∧ Hid (KeepR n₀ lo hi W wr))
    (fun i _ => xs.length - (intOf i).toNat)
  case atStart => exact ⟨0, Nat.zero_le _, rfl, H0, KeepR.refl _ _ _ _⟩
  case round =>
    obtain ⟨k, hkx, rfl, hJs, hnx⟩ := hrel
    have hsz := hnx.out.low.size
    by_cases hlt : k < xs.length
    · have hlt2 : k < ys.length := by omega
      obtain ⟨b1, o1, rfl, l1, p0, p1⟩ := (H1.out.below hnx.out.low).at k hlt
      obtain ⟨b2, o2, rfl, l2, q0, q1⟩ := (H2.out.below hnx.out.low).at k hlt2
      have e0 : wr.cell? ⟨Ba, 0, none⟩ = some (.slice (some ⟨b1, o1, none⟩) xs.length c1) := by
        rw [World.cell?_of_block (w := W) (a := ⟨Ba, 0, none⟩) (hnx.out.mid Ba ha ha')]; exact HA.out
      have e1 : wr.cell? ⟨Bb, 0, none⟩ = some (.slice (some ⟨b2, o2, none⟩) ys.length c2) := by
        rw [World.cell?_of_block (w := W) (a := ⟨Bb, 0, none⟩) (hnx.out.mid Bb hb hb')]; exact HB.out
      have e2 : BoxAt wr Bk u := (hnx.out.mid Bk hk hk').trans HK.out
      obtain ⟨u0, u1, -, -⟩ := e2.four
      have HS := Lib.hid (seqF_succ (Ve.sc xs u ys) k)
      have HF := Lib.hid (show Ve.sc xs u ys k = (Ve.addR (Ve.at_ xs k) (Ve.mulR u (Ve.at_ ys k)), Ve.addK (Ve.at_ xs k) (Ve.mulR u (Ve.at_ ys k))) from rfl)
      generalize Ve.at_ xs k = x at *
      generalize Ve.at_ ys k = y at *
      have HQ : Hid (Five Bk Bb u (.slice (some ⟨b2, o2, none⟩) ys.length c2) b2 (o2 + k * 2) y wr) := ⟨⟨u0, u1, e1⟩, ⟨q0, q1⟩, by omega, by omega, by omega⟩
      have HP : Hid (wr.cell? ⟨Ba, 0, none⟩ = some (.slice (some ⟨b1, o1, none⟩) xs.length c1) ∧ (wr.cell? ⟨b1, o1 + k * 2, none⟩ = some (.int .i64 x.1) ∧ wr.cell? ⟨b1, o1 + k * 2 + 1, none⟩ = some (.int .i64 x.2)) ∧ Ba < wr.heap.size ∧ b1 < wr.heap.size) := ⟨e0, ⟨p0, p1⟩, by omega, by omega⟩
      have hin := Since.refl wr
      clear e2
      gi_wp2_with fail
      refine wpIn_wide.2 ?_
      go_cut [6, 7] (fun p b wx => Got wr (Ve.mulR u y).1 (Ve.mulR u y).2 (Ve.mulK u y) p b wx)
      case first =>
        go_region_held3 (fun w' => w'.cell? ⟨Bk, 0, none⟩ = some (.int .i64 u.1) ∧ w'.cell? ⟨Bk, 1, none⟩ = some (.int .i64 u.2) ∧ w'.cell? ⟨Bb, 0, none⟩ = some (.slice (some ⟨b2, o2, none⟩) ys.length c2) ∧ w'.cell? ⟨b2, o2 + k * 2, none⟩ = some (.int .i64 y.1) ∧ w'.cell? ⟨b2, o2 + k * 2 + 1, none⟩ = some (.int .i64 y.2) ∧ Since wr w') (first | exact Five.six HQ (by assumption) | exact Five.six HQ (Since.drew (by assumption)) | exact Five.six HQ (Own2.since (by assumption)) | exact Five.six HQ (Since.drew (Own2.since (by assumption))) | exact Five.six HQ (Since.alloc (by assumption) _) | exact Five.six HQ (Since.drew (Since.alloc (by assumption) _)) | exact Five.six HQ (Own2.set2 (by assumption) _ _) | exact Five.six HQ (Since.drew (Own2.set2 (by assumption) _ _)))
          (first | (go_at_call 11; refine (calls_own (impl_mul u y _) (B := wr) (x := .int .i64 0) (y := .int .i64 0) (t := 26) (by first | assumption | exact Own2.drew (by assumption) | exact Since.new (by assumption) _ _ _ | exact Own2.drew (Since.new (by assumption) _ _ _))).mono ?_; rintro e w' ⟨⟨rfl, _⟩, hin3⟩; obtain ⟨z0, z1, f0, f1⟩ := Own2.own hin3) | (go_at_call 11; refine (calls_since (impl_mul u y _) (B := wr) (by first | assumption | exact Since.drew (by assumption))).mono ?_; rintro e w' ⟨⟨rfl, _⟩, hin2⟩))
        all_goals
          go_wp2_with fail
          go_meet
          first
          | exact Got.last (by assumption) _ _ _ _
          | exact Got.set (by assumption) _ _ _
          | exact Got.drew (Got.last (by assumption) _ _ _ _)
          | exact Got.drew (Got.set (by assumption) _ _ _)
      case rest =>
        obtain ⟨wd, rfl⟩ : ∃ wd : World, wd = wc := ⟨_, rfl⟩
        obtain ⟨q, rfl, rfl, m0, m1, hq, hqh, hs1⟩ := hcut
        have hk1 := hnx.out.trans (KeepR.of_below hs1.low (by omega) (by omega))
        have hj1 := abides_below HJ.out hJs.out hs1.low
        have d0 := hs1.cell (p := ⟨Ba, 0, none⟩) HP.out.2.2.1 HP.out.1
        have d1 := hs1.cell (p := ⟨b1, o1 + k * 2, none⟩) HP.out.2.2.2 HP.out.2.1.1
        have d2 := hs1.cell (p := ⟨b1, o1 + k * 2 + 1, none⟩) HP.out.2.2.2 HP.out.2.1.2
        generalize Ve.mulR u y = m at *
        generalize Ve.mulK u y = mk at *
        have HY2 : Hid (∀ w', Below wd.drew.heap.size wd.drew w' → YieldAt Fence.wide (n - 1) Tryd.prog l #[.agg #[.int .i64 (Ve.addR x m).1, .int .i64 (Ve.addR x m).2], .bool (Ve.addK x m)] w' fun e W' => ∃ b : Bool, e = .returned (.bool b) ∧ Went n₀ lo hi J Jx (seqF (Ve.sc xs u ys) (k + 1)) wr b W') := by
          intro w' hb2'
          have hb2 : Below wd.heap.size wd w' := ((Below.refl wd.heap.size wd).drew).trans hb2'
          have h := HY.out _ (Ve.sc xs u ys k) w' (abides_below HJ.out hj1 hb2) (by rw [seqF_len]; exact hlt)
          rw [HF.out] at h
          refine h.mono ?_
          rintro e W' (⟨rfl, h3, h4⟩ | ⟨rfl, h3⟩)
          · exact ⟨true, rfl, .inl ⟨rfl, by rw [HS.out, HF.out]; exact h3, (KeepR.of_below (hs1.low.trans (hb2.mono hs1.low.size)) (by omega) (by omega)).trans h4⟩⟩
          · exact ⟨false, rfl, .inr ⟨rfl, by rw [HS.out, HF.out]; exact h3⟩⟩
        clear hk1 hs1 hj1 HQ hin HP e0 e1 p0 p1 q0 q1 u0 u1
        gi_wp2_with fail
        gi_region_with_o (first
          | (refine ⟨trivial, ?_⟩; gi_at_call 12; refine (callsIn_wide.2 (impl_add x m _)).mono ?_; rintro e w' ⟨rfl, hb2⟩; obtain ⟨fn, tmps, assign, body, hy, hR⟩ := HY2.out w' hb2; have HR := Lib.hid hR; clear hR hb2)
          | (refine HR.out.mono ?_; rintro e W3 ⟨bb, rfl, hW⟩; have HW := Lib.hid hW; clear hW))
        all_goals
          rcases HW.out with ⟨rfl, hJ3, hk3⟩ | ⟨rfl, hJx3⟩
          · have HJ3 := Lib.hid hJ3
            have HK3 := Lib.hid (hnx.out.trans hk3)
            clear hJ3 hk3 HW
            gi_wp2_with fail
            go_roundw
            case rel => exact ⟨k + 1, by omega, by go_num, HJ3, HK3⟩
            case measure => simp [intOf]; omega
          · have HJ3 := Lib.hid hJx3
            clear hJx3 HW
            gi_wp2_with fail
            refine bodyPost_ret (results_none rfl _ _ _) rfl ?_
            exact ⟨⟨_, rfl⟩, .inr ⟨_, ⟨k + 1, by omega, rfl⟩, HJ3.out⟩⟩
    · obtain rfl : k = xs.length := by omega
      gi_wp2
      go_end0
      exact ⟨⟨_, rfl⟩, .inl ⟨_, rfl, hJs.out⟩⟩
end Go.Proofs.YtlaohlcghdbjhaaDoor
