/- math/bits.Mul at 1 and a small number; slices.Repeat of one fraction; impl.zeroRats. -/
import Derived.Test.YtpjnjidbdpfdcaaGLb
import Derived.Test.YtpjnjidbdpfdcaaCoA
import Derived.Laws.CopyRow
import Derived.Lib.SlBuf
import Derived.Laws.CopyOwn
namespace Go.Proofs.Ytpjnjidbdpfdcaa
open Go.RowKit
open Ve (R)
theorem ret_u2 {a b c d : Int} (h1 : a = c) (h2 : b = d) : Ending.returned (.tuple #[.int .u64 a, .int .u64 b]) = .returned (.tuple #[.int .u64 c, .int .u64 d]) := by rw [h1, h2]
set_option maxHeartbeats 1000000 in
theorem bits_Mul64 (n : Nat) (h : n ≤ 2100) (w : World) : Calls Try.prog 57 #[.int .u64 1, .int .u64 n] w fun e w' => e = .returned (.tuple #[.int .u64 0, .int .u64 n]) ∧ w = w' := by
 obtain ⟨m, rfl⟩ : ∃ m : Fin 2101, n = m.val := ⟨⟨n, by omega⟩, rfl⟩
 clear h
 go_enter Try.func57, Try.ntmps57
 go_wp2_with fail
 go_ret2
 refine ⟨ret_u2 ?_ ?_, rfl⟩
 ·
  revert m
  decide +kernel
 ·
  rfl
theorem bits_Mul (n : Nat) (h : n ≤ 2100) (w : World) : Calls Try.prog 50 #[.int .u64 1, .int .u64 n] w fun e w' => e = .returned (.tuple #[.int .u64 0, .int .u64 n]) ∧ w = w' := by
 go_enter Try.func50, Try.ntmps50
 go_wp2_with fail
 refine (bits_Mul64 n h w).mono ?_
 rintro e w1 ⟨rfl, rfl⟩
 go_wp2_with fail
 go_ret2
 exact ⟨rfl, rfl⟩
/-! ### copy at elements of two cells -/
theorem run_copy2 {P : Program} (w : World) (dT sT ty elem : TypeId) (g o dLen dCap : Nat) (a : Addr) (sLen sCap : Nat) (cur : Array Value) (t : TypeId) (cs : List Value)
  (hu : P.underlying dT = some (.slice elem)) (hs : (P.info? elem).map (·.size) = some 2) (hg : w.heap[g]? = some (.cells cur t (0, 0))) (hn : cs.length = Nat.min sLen dLen * 2)
  (hsrc : ∀ j v, cs[j]? = some v → w.cell? (a.add j) = some v) (hfit : o + cs.length ≤ cur.size) (h1 : ∀ v ∈ cs, v.oneCell' = true) :
  (Builtin.copy_ #[dT, sT] ty #[.slice (some ⟨g, o, none⟩) dLen dCap, .slice (some a) sLen sCap]).run P w =
   .ok (goInt (Nat.min sLen dLen)) (w.setRow g (cur.toList.take o ++ cs ++ cur.toList.drop (o + cs.length)).toArray) := by
 have hl := run_loadCells_list (P := P) w a cs hsrc
 have hst := run_storeCells_at P g o t cs 0 cur w hg (by simpa using hfit) h1
 cases hq : P.info? elem with
 | none => simp [hq] at hs
 | some i =>
  have hi : i.size = 2 := by simpa [hq] using hs
  simp [Builtin.copy_, run_underlying hu, Builtin.lenOf, Builtin.firstCells, sizeOf, typeInfo, hq, hi, ← hn, hl, hst]
theorem step_copy_run {P : Program} {ops : Array Oper} {o : Oper} {a : Act} {w : World} {K : Act → World → Prop} {Q : Exit → Act → World → Prop} {E : Prop} (hgd : o.guard = none) (d s : Operand) (t t' : TypeId)
  (ho : o.op = .call { callee := .builtin .copy, args := #[d, s], argTypes := #[t, t'] }) (v u : Value) (hd : a.eval d = v) (hs : a.eval s = u) {v' : Value} {w' : World}
  (hr : (Builtin.copy_ #[t, t'] o.type #[v, u]).run P w = .ok v' w') (h : K (a.put o.dst v') w') : if Region.wanted o (yielded ops a.tmps) = true then Oper.wp P o a w K Q else E := by
 have hw : Region.wanted o (yielded ops a.tmps) = true := by simp [Region.wanted, hgd]
 rw [if_pos hw]
 exact Lib.wp_copy_run w d s t t' ho v u hd hs hr h
def repR (x : R) (m : Nat) : List R := List.replicate m x
theorem zeros_rep (m : Nat) : Lp.zerosR m = repR (0, 1) m := by
 unfold Lp.zerosR repR
 rw [List.map_const', List.length_range]
def Rp (x : R) (g N k : Nat) (w : World) : Prop := ∃ rest : List Value, rest.length = (N - k) * 2 ∧ w.heap[g]? = some (.cells (cellsR (repR x k) ++ rest).toArray 46 (0, 0))
theorem cellsR_append : ∀ (xs ys : List R), cellsR (xs ++ ys) = cellsR xs ++ cellsR ys
 | [], ys => rfl
 | x :: xs, ys => by simp only [cellsR, List.cons_append, cellsR_append xs ys]
theorem zeros_add (x : R) (k m : Nat) : repR x (k + m) = repR x k ++ repR x m := List.replicate_append_replicate.symm
theorem cellsR_zeros (x : R) (m : Nat) : (cellsR (repR x m)).length = m * 2 := by rw [cellsR_len]; simp [repR]
theorem cellsR_one : ∀ (xs : List R) (v : Value), v ∈ cellsR xs → v.oneCell' = true
 | [], v, h => by simp [cellsR] at h
 | x :: xs, v, h => by
  simp only [cellsR, List.mem_cons] at h
  rcases h with rfl | rfl | h
  ·
   rfl
  ·
   rfl
  ·
   exact cellsR_one xs v h
theorem rep_copy {x : R} {P : Program} {B : Nat} {w0 w : World} (dT sT ty elem : TypeId) (hu : P.underlying dT = some (.slice elem)) (hs : (P.info? elem).map (·.size) = some 2) {g N k m o : Nat} (ho : o = k * 2) (dLen c1 sLen c2 : Nat) (hm : Nat.min sLen dLen = m) (hkm : k + m ≤ N) (a : Addr) (hsrc : ∀ j v, (cellsR (repR x m))[j]? = some v → w.cell? (a.add j) = some v) (h : Rp x g N k w) (hb : Below B w0 w) (hBg : B ≤ g) :
  ∃ w', (Builtin.copy_ #[dT, sT] ty #[.slice (some ⟨g, o, none⟩) dLen c1, .slice (some a) sLen c2]).run P w = .ok (goInt m) w' ∧ Rp x g N (k + m) w' ∧ Below B w0 w' := by
 subst ho
 obtain ⟨rest, hr, hg⟩ := h
 have hl : (cellsR (repR x k)).length = k * 2 := cellsR_zeros x k
 have hl2 : (cellsR (repR x m)).length = m * 2 := cellsR_zeros x m
 have hrun := run_copy2 (P := P) w dT sT ty elem g (k * 2) dLen c1 a sLen c2 _ 46 (cellsR (repR x m)) hu hs hg (by rw [hl2, hm]) hsrc (by simp [hl, hl2, hr]; omega) (fun v hv => cellsR_one _ v hv)
 rw [hm] at hrun
 refine ⟨_, hrun, ⟨rest.drop (m * 2), by simp [hr]; omega, ?_⟩, below_setRow hb hBg _⟩
 have e : ((cellsR (repR x k) ++ rest).toArray.toList.take (k * 2) ++ cellsR (repR x m) ++ (cellsR (repR x k) ++ rest).toArray.toList.drop (k * 2 + (cellsR (repR x m)).length)).toArray = (cellsR (repR x (k + m)) ++ rest.drop (m * 2)).toArray := by
  rw [zeros_add x, cellsR_append, hl2]
  congr 1
  rw [List.take_left' hl, List.drop_append, hl, List.drop_eq_nil_of_le (by rw [hl]; omega)]
  simp
 rw [← e]
 exact setRow_heap w g _ _ _ _ hg
theorem Rp.cells {x : R} {g N k : Nat} {w : World} (h : Rp x g N k w) {m : Nat} (hm : m ≤ k) : ∀ j v, (cellsR (repR x m))[j]? = some v → w.cell? ((⟨g, 0, none⟩ : Addr).add j) = some v := fun j v hj => by
 obtain ⟨rest, hr, hg⟩ := h
 have hlt : j < (cellsR (repR x m)).length := (List.getElem?_eq_some_iff.1 hj).1
 have e : repR x k = repR x m ++ repR x (k - m) := by rw [← zeros_add x]; congr 1; omega
 have hadd : (⟨g, 0, none⟩ : Addr).add j = ⟨g, j, none⟩ := by unfold Addr.add; split <;> simp_all
 rw [hadd]
 simp only [World.cell?, hg]
 rw [e, cellsR_append]
 have hj2 : (cellsR (repR x m))[j] = v := by rw [List.getElem?_eq_getElem hlt] at hj; exact Option.some.inj hj
 simp [List.getElem?_append, hlt, hj2]
theorem Rp.full {x : R} {B g N : Nat} {w : World} (h : Rp x g N N w) (hg : B ≤ g) (hN : N ≤ 1048576) : OwnRats B w (.slice (some ⟨g, 0, none⟩) N N) (repR x N) := by
 obtain ⟨rest, hr, hh⟩ := h
 have hl : (cellsR (repR x N)).length = N * 2 := cellsR_zeros x N
 have hz : (repR x N).length = N := by simp [repR]
 refine ⟨by rw [hl, hz], .inr ⟨g, N, _, by rw [hz], hg, hh, by rw [hz]; exact Nat.le_refl _, by unfold maxLen; omega, ?_, ?_⟩⟩
 ·
  simp [hl, hr]
 ·
  rw [hz]
  simp [List.take_left' hl]
theorem info_rat_size : (Try.prog.info? 46).map (·.size) = some 2 := by kernel_rfl
theorem Rp.made {x : R} {B g n : Nat} {w : World} {xs : List Value} (h : w.ownsRow B 46 2 (.slice (some ⟨g, 0, none⟩) n n) n xs) : Rp x g n 0 w := by
 obtain ⟨_, ⟨hv, _⟩ | ⟨g', cap, cur, hv, _, hh, _, _, hs, _⟩⟩ := h
 ·
  cases hv
 ·
  injection hv with h1 h2 h3
  injection h1 with h1
  injection h1 with h1
  subst h1 h3
  exact ⟨cur.toList, by simpa using hs, by simpa [repR, cellsR] using hh⟩
theorem src_one {x : R} {w : World} {q m : Nat} (hm : m ≤ 1) (q0 : w.cell? ⟨q, 0, none⟩ = some (.int .i64 x.1)) (q1 : w.cell? ⟨q, 1, none⟩ = some (.int .i64 x.2)) : ∀ j v, (cellsR (repR x m))[j]? = some v → w.cell? ((⟨q, 0, none⟩ : Addr).add j) = some v := fun j v hj => by
 have hadd : (⟨q, 0, none⟩ : Addr).add j = ⟨q, j, none⟩ := by unfold Addr.add; split <;> simp_all
 rw [hadd]
 match m, hm with
 | 0, _ => simp [repR, cellsR] at hj
 | 1, _ =>
  match j with
  | 0 => simp [repR, cellsR] at hj; rw [q0, hj]
  | 1 => simp [repR, cellsR] at hj; rw [q1, hj]
  | j + 2 => simp [repR, cellsR] at hj
theorem nmin_l (a b : Nat) : Nat.min a b ≤ a := Nat.min_le_left a b
theorem nmin_r (a b : Nat) : Nat.min a b ≤ b := Nat.min_le_right a b
theorem min_one (n : Nat) : Nat.min 1 n ≤ n := Nat.min_le_right 1 n
end Go.Proofs.Ytpjnjidbdpfdcaa
