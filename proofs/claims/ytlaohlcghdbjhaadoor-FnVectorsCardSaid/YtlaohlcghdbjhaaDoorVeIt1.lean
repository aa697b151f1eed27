/- The iterators of DotRat and AddScaled. -/
import Derived.Test.YtlaohlcghdbjhaaDoorVeIt0
namespace Go.Proofs.YtlaohlcghdbjhaaDoor
open Go.RowKit Go.Shelf
open Ve (R)
attribute [local go_sem] Oper.semAt_some

theorem impl_mul (x y : R) (w : World) : Calls Tryd.prog 11 #[.agg #[.int .i64 x.1, .int .i64 x.2], .agg #[.int .i64 y.1, .int .i64 y.2]] w fun e w' => e = .returned (.tuple #[.agg #[.int .i64 (Ve.mulR x y).1, .int .i64 (Ve.mulR x y).2], .bool (Ve.mulK x y)]) ∧ Below w.heap.size w w' := impl_MulRat x.1 x.2 y.1 y.2 w
theorem impl_add (x y : R) (w : World) : Calls Tryd.prog 12 #[.agg #[.int .i64 x.1, .int .i64 x.2], .agg #[.int .i64 y.1, .int .i64 y.2]] w fun e w' => e = .returned (.tuple #[.agg #[.int .i64 (Ve.addR x y).1, .int .i64 (Ve.addR x y).2], .bool (Ve.addK x y)]) ∧ Below w.heap.size w w' := impl_AddRat x.1 x.2 y.1 y.2 w
/-- Two boxes of slices, and two fractions. -/
def Six (p q : Nat) (u v : Value) (b1 k1 b2 k2 : Nat) (x y : R) (B : World) : Prop :=
  (B.cell? ⟨p, 0, none⟩ = some u ∧ B.cell? ⟨q, 0, none⟩ = some v ∧ p < B.heap.size ∧ q < B.heap.size) ∧ Quad b1 k1 b2 k2 x y B
theorem Six.seven {p q : Nat} {u v : Value} {b1 k1 b2 k2 : Nat} {x y : R} {B wx : World} (H : Hid (Six p q u v b1 k1 b2 k2 x y B)) (h : Since B wx) :
    wx.cell? ⟨p, 0, none⟩ = some u ∧ wx.cell? ⟨q, 0, none⟩ = some v ∧ wx.cell? ⟨b1, k1, none⟩ = some (.int .i64 x.1) ∧ wx.cell? ⟨b1, k1 + 1, none⟩ = some (.int .i64 x.2) ∧ wx.cell? ⟨b2, k2, none⟩ = some (.int .i64 y.1) ∧ wx.cell? ⟨b2, k2 + 1, none⟩ = some (.int .i64 y.2) ∧ Since B wx :=
  ⟨h.cell (p := ⟨p, 0, none⟩) H.out.1.2.2.1 H.out.1.1, h.cell (p := ⟨q, 0, none⟩) H.out.1.2.2.2 H.out.1.2.1, Quad.five H.out.2 h⟩
/-- DotRat's products. -/
def pr (xs ys : List R) (j : Nat) : R := Ve.mulR (Ve.at_ xs j) (Ve.at_ ys j)
set_option maxRecDepth 100000 in
set_option maxHeartbeats 4000000 in
theorem products1 (n : Nat) (hn : 1 ≤ n) (l Ba Bb n₀ lo hi : Nat) (a1 a2 : Option Addr) (c1 c2 : Nat) (xs ys : List R) (hxy : xs.length ≤ ys.length) (hz : ys.length ≤ 1048576) (B0 : Nat) (J Jx : List R → World → Prop) (hJ : AbidesFrom B0 J)
    (hY : ∀ pre x W, J pre W → pre.length < xs.length → YieldAt Fence.wide (n - 1) Tryd.prog l (encR x) W fun e W' =>
      (e = .returned (.bool true) ∧ J (pre ++ [x]) W' ∧ KeepR n₀ lo hi W W') ∨ (e = .returned (.bool false) ∧ Jx (pre ++ [x]) W'))
    (W : World) (hn₀ : n₀ ≤ W.heap.size) (hhi : hi ≤ W.heap.size) (ha : lo ≤ Ba) (ha' : Ba < hi) (hb : lo ≤ Bb) (hb' : Bb < hi)
    (hBa : W.cell? ⟨Ba, 0, none⟩ = some (.slice a1 xs.length c1)) (hBb : W.cell? ⟨Bb, 0, none⟩ = some (.slice a2 ys.length c2)) (h1 : RatsIn n₀ W a1 xs) (h2 : RatsIn n₀ W a2 ys) (h0 : J [] W) :
    CallsIn Fence.wide n Tryd.prog 52 #[.func (.yield l) #[] #[], .pointer (some ⟨Ba, 0, none⟩), .pointer (some ⟨Bb, 0, none⟩)] W fun e W' => (∃ v, e = .returned v) ∧
      ((∃ zs, zs = seqF (pr xs ys) xs.length ∧ J zs W') ∨ (∃ pre, (∃ k, k ≤ xs.length ∧ pre = seqF (pr xs ys) k) ∧ Jx pre W')) := by
  have H1 := Lib.hid h1
  have H2 := Lib.hid h2
  have HY := Lib.hid hY
  have H0 := Lib.hid h0
  have HJ := Lib.hid hJ
  have HA := Lib.hid hBa
  have HB := Lib.hid hBb
  clear h1 h2 hY h0 hJ hBb
  refine callsIn_of_wp Tryd.func52 rfl trivial ?_ rfl
  simp only [Tryd.ntmps52, List.size_toArray, List.length_cons, List.length_nil, Nat.reduceAdd, Nat.reduceSub, Array.replicate_succ, Array.replicate_zero, List.push_toArray, List.append_toArray, List.nil_append, List.cons_append]
  gi_wp2
  clear hBa
  gi_loopw [9] (fun i wr => ∃ k : Nat, k ≤ xs.length ∧ i = .int .i64 k ∧ Hid (J (seqF (pr xs ys) k) wr) ∧ Hid (KeepR n₀ lo hi W wr))
    (fun i _ => xs.length - (intOf i).toNat)
  case atStart => exact ⟨0, Nat.zero_le _, rfl, H0, KeepR.refl _ _ _ _⟩
  case round =>
    obtain ⟨k, hk, rfl, hJs, hnx⟩ := hrel
    have hsz := hnx.out.low.size
    by_cases hlt : k < xs.length
    · have hlt2 : k < ys.length := by omega
      obtain ⟨b1, o1, rfl, l1, p0, p1⟩ := (H1.out.below hnx.out.low).at k hlt
      obtain ⟨b2, o2, rfl, l2, q0, q1⟩ := (H2.out.below hnx.out.low).at k hlt2
      have e0 : wr.cell? ⟨Ba, 0, none⟩ = some (.slice (some ⟨b1, o1, none⟩) xs.length c1) := by
        rw [World.cell?_of_block (w := W) (a := ⟨Ba, 0, none⟩) (hnx.out.mid Ba ha ha')]; exact HA.out
      have e1 : wr.cell? ⟨Bb, 0, none⟩ = some (.slice (some ⟨b2, o2, none⟩) ys.length c2) := by
        rw [World.cell?_of_block (w := W) (a := ⟨Bb, 0, none⟩) (hnx.out.mid Bb hb hb')]; exact HB.out
      have HS := Lib.hid (seqF_succ (pr xs ys) k)
      have HF := Lib.hid (show pr xs ys k = Ve.mulR (Ve.at_ xs k) (Ve.at_ ys k) from rfl)
      generalize Ve.at_ xs k = x at *
      generalize Ve.at_ ys k = y at *
      have HQ : Hid (Six Ba Bb (.slice (some ⟨b1, o1, none⟩) xs.length c1) (.slice (some ⟨b2, o2, none⟩) ys.length c2) b1 (o1 + k * 2) b2 (o2 + k * 2) x y wr) := ⟨⟨e0, e1, by omega, by omega⟩, p0, p1, q0, q1, by omega, by omega⟩
      have hin := Since.refl wr
      gi_wp2_with fail
      refine wpIn_wide.2 ?_
      go_cut [5, 6] (fun p b wx => Got wr (Ve.mulR x y).1 (Ve.mulR x y).2 (Ve.mulK x y) p b wx)
      case first =>
        go_region_held3 (fun w' => w'.cell? ⟨Ba, 0, none⟩ = some (.slice (some ⟨b1, o1, none⟩) xs.length c1) ∧ w'.cell? ⟨Bb, 0, none⟩ = some (.slice (some ⟨b2, o2, none⟩) ys.length c2) ∧ w'.cell? ⟨b1, o1 + k * 2, none⟩ = some (.int .i64 x.1) ∧ w'.cell? ⟨b1, o1 + k * 2 + 1, none⟩ = some (.int .i64 x.2) ∧ w'.cell? ⟨b2, o2 + k * 2, none⟩ = some (.int .i64 y.1) ∧ w'.cell? ⟨b2, o2 + k * 2 + 1, none⟩ = some (.int .i64 y.2) ∧ Since wr w') (first | exact Six.seven HQ (by assumption) | exact Six.seven HQ (Since.drew (by assumption)) | exact Six.seven HQ (Own2.since (by assumption)) | exact Six.seven HQ (Since.drew (Own2.since (by assumption))) | exact Six.seven HQ (Since.alloc (by assumption) _) | exact Six.seven HQ (Since.drew (Since.alloc (by assumption) _)) | exact Six.seven HQ (Own2.set2 (by assumption) _ _) | exact Six.seven HQ (Since.drew (Own2.set2 (by assumption) _ _)))
          (first | (go_at_call 11; refine (calls_own (impl_mul x y _) (B := wr) (x := .int .i64 0) (y := .int .i64 0) (t := 26) (by first | assumption | exact Own2.drew (by assumption) | exact Since.new (by assumption) _ _ _ | exact Own2.drew (Since.new (by assumption) _ _ _))).mono ?_; rintro e w' ⟨⟨rfl, _⟩, hin3⟩; obtain ⟨z0, z1, f0, f1⟩ := Own2.own hin3) | (go_at_call 11; refine (calls_since (impl_mul x y _) (B := wr) (by first | assumption | exact Since.drew (by assumption))).mono ?_; rintro e w' ⟨⟨rfl, _⟩, hin2⟩))
        all_goals
          go_wp2_with fail
          go_meet
          first
          | exact Got.last (by assumption) _ _ _ _
          | exact Got.set (by assumption) _ _ _
          | exact Got.drew (Got.last (by assumption) _ _ _ _)
          | exact Got.drew (Got.set (by assumption) _ _ _)
      case rest =>
        obtain ⟨q, rfl, rfl, m0, m1, hq, hqh, hs1⟩ := hcut
        have hk1 := hnx.out.trans (KeepR.of_below hs1.low (by omega) (by omega))
        have hj1 := abides_below HJ.out hJs.out hs1.low
        obtain ⟨fn, tmps, assign, body, hy, hR⟩ := HY.out _ (pr xs ys k) wc hj1 (by rw [seqF_len]; exact hlt)
        rw [HF.out] at hy
        dsimp only [encR] at hy
        have HR := Lib.hid hR
        have HK1 := Lib.hid hk1
        clear hR hk1 hs1 hj1 HQ hin
        gi_wp2_with fail
        refine HR.out.mono ?_
        rintro e W3 (⟨rfl, hJ3, hk3⟩ | ⟨rfl, hJx3⟩)
        · have HJ3 := Lib.hid hJ3
          have HK3 := Lib.hid (HK1.out.trans hk3)
          clear hJ3 hk3
          gi_wp2
          go_roundw
          case rel => exact ⟨k + 1, by omega, by go_num, by rw [HS.out]; exact HJ3, HK3⟩
          case measure => simp [intOf]; omega
        · have HJ3 := Lib.hid hJx3
          clear hJx3
          gi_wp2
          refine bodyPost_ret (results_none rfl _ _ _) rfl ?_
          exact ⟨⟨_, rfl⟩, .inr ⟨_, ⟨k + 1, by omega, HS.out.symm⟩, HJ3.out⟩⟩
    · obtain rfl : k = xs.length := by omega
      gi_wp2
      go_end0
      exact ⟨⟨_, rfl⟩, .inl ⟨_, rfl, hJs.out⟩⟩
end Go.Proofs.YtlaohlcghdbjhaaDoor
