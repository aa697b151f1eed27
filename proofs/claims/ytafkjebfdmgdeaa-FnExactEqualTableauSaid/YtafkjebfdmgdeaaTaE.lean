/- spec.EqualTableau, impl.EqualTableau. -/
import Derived.Test.YtafkjebfdmgdeaaTaL3
import Derived.Test.YtafkjebfdmgdeaaTaC
import Derived.Test.YtafkjebfdmgdeaaGVa
namespace Go.Proofs.Ytafkjebfdmgdeaa
open Go.RowKit
open Ve (R)
open Ta (T)
/-- Every field equal. -/
def Ta.same (s t : T) : Bool := decide (s.cols = t.cols) && (decide (s.rows = t.rows) && decide (s.basis = t.basis))
theorem same_no_cols {s t : T} (h : s.cols ≠ t.cols) : Ta.same s t = false := by unfold Ta.same; simp [h]
theorem same_no_rows {s t : T} (h : s.rows ≠ t.rows) : Ta.same s t = false := by unfold Ta.same; simp [h]
theorem same_no_basis {s t : T} (h : s.basis ≠ t.basis) : Ta.same s t = false := by unfold Ta.same; simp [h]
theorem same_yes {s t : T} (h : s.cols = t.cols) (h1 : s.rows = t.rows) (h2 : s.basis = t.basis) : Ta.same s t = true := by unfold Ta.same; simp [h, h1, h2]
theorem rows_same {L M : List (List R)} (hl : L.length = M.length) (h : ∀ j, j < L.length → rr L j = rr M j) : L = M := by
  apply List.ext_getElem? fun j => ?_
  rcases Nat.lt_or_ge j L.length with h1 | h1
  · rw [rr_get h1, rr_get (by omega), h j h1]
  · rw [List.getElem?_eq_none h1, List.getElem?_eq_none (by omega)]
theorem ints_same {L M : List Int} (hl : L.length = M.length) (h : ∀ j, j < L.length → L.getD j 0 = M.getD j 0) : L = M := by
  apply List.ext_getElem? fun j => ?_
  rcases Nat.lt_or_ge j L.length with h1 | h1
  · have e1 : L[j]? = some (L.getD j 0) := by rw [List.getD_eq_getElem?_getD, List.getElem?_eq_getElem h1]; rfl
    have e2 : M[j]? = some (M.getD j 0) := by rw [List.getD_eq_getElem?_getD, List.getElem?_eq_getElem (by omega)]; rfl
    rw [e1, e2, h j h1]
  · rw [List.getElem?_eq_none h1, List.getElem?_eq_none (by omega)]
theorem two_tri (w : World) (x y z x' y' z' : Value) (t t' : TypeId) :
    Tri ((w.alloc (.cells #[x, y, z] t)).alloc (.cells #[x', y', z'] t')) w.heap.size x y z t ∧ Tri ((w.alloc (.cells #[x, y, z] t)).alloc (.cells #[x', y', z'] t')) (w.heap.size + 1) x' y' z' t' := by
  have h2 := Tri.new (w.alloc (.cells #[x, y, z] t)) x' y' z' t'
  rw [size1] at h2
  exact ⟨(Tri.new w x y z t).more _, h2⟩
theorem two_low (w : World) (x y z x' y' z' : Value) (t t' : TypeId) : Below w.heap.size w ((w.alloc (.cells #[x, y, z] t)).alloc (.cells #[x', y', z'] t')) :=
  ((Below.refl w.heap.size w).alloc (Nat.le_refl _) _).alloc (by rw [size1]; omega) _
theorem spec_eqv (B : Nat) (a1 a2 : Option Addr) (c1 c2 : Nat) (xs ys : List R) (hn : xs.length ≤ 1048576) (hn2 : ys.length ≤ 1048576) (g : Bool) (hg : eqV xs ys = g) (w : World) (h1 : RatsIn B w a1 xs) (h2 : RatsIn B w a2 ys) :
    Calls Try.prog 39 #[.slice a1 xs.length c1, .slice a2 ys.length c2] w fun e w' => e = .returned (.bool g) ∧ ∃ d, w' = w.drewN d := hg ▸ spec_EqualVector B a1 a2 c1 c2 xs ys hn hn2 w h1 h2
set_option maxRecDepth 100000 in
set_option maxHeartbeats 4000000 in
theorem spec_EqualTableau (B : Nat) (a b a' b' : Option Addr) (c1 c2 d1 d2 : Nat) (s t : T) (hs : TabFits s) (ht : TabFits t) (g : Bool) (hg : Ta.same s t = g) (w : World) (hBw : B ≤ w.heap.size) (h1 : TabIn B w a b s) (h2 : TabIn B w a' b' t) :
    Calls Try.prog 56 #[tabV a b c1 c2 s, tabV a' b' d1 d2 t] w fun e w' => e = .returned (.bool g) ∧ Below w.heap.size w w' := by
  rw [show tabV a b c1 c2 s = .agg #[.slice a s.rows.length c1, .slice b s.basis.length c2, .int .i64 s.cols] from rfl, show tabV a' b' d1 d2 t = .agg #[.slice a' t.rows.length d1, .slice b' t.basis.length d2, .int .i64 t.cols] from rfl]
  have hb := two_low w (.slice a s.rows.length c1) (.slice b s.basis.length c2) (.int .i64 s.cols) (.slice a' t.rows.length d1) (.slice b' t.basis.length d2) (.int .i64 t.cols) 50 50
  obtain ⟨q1, q2⟩ := two_tri w (.slice a s.rows.length c1) (.slice b s.basis.length c2) (.int .i64 s.cols) (.slice a' t.rows.length d1) (.slice b' t.basis.length d2) (.int .i64 t.cols) 50 50
  obtain ⟨nr, nw, nb, _⟩ := hs
  obtain ⟨nr', nw', nb', _⟩ := ht
  have Hx := Lib.hid q1
  have Hy := Lib.hid q2
  have Hz := Lib.hid ((h1.mono hBw).below hb)
  have Hz' := Lib.hid ((h2.mono hBw).below hb)
  have Hb := Lib.hid hb
  have Hg := Lib.hid hg
  have HW := Lib.hid nw
  have HW' := Lib.hid nw'
  obtain ⟨L, B1, C⟩ := s
  obtain ⟨L', B1', C'⟩ := t
  simp only at nr nb nr' nb'
  clear h1 h2 hb hg nw nw' q1 q2
  by_cases e0 : C = C'
  · have t0 : (C != C') = false := by rw [e0]; simp
    have E0 := Lib.hid e0
    clear e0
    by_cases e1 : L.length = L'.length
    · have t1 : ((L.length : Int) != (L'.length : Int)) = false := by rw [e1]; simp
      have E1 := Lib.hid e1
      clear e1
      by_cases e2 : B1.length = B1'.length
      · have t2 : ((B1.length : Int) != (B1'.length : Int)) = false := by rw [e2]; simp
        have E2 := Lib.hid e2
        clear e2
        go_enter Try.func56, Try.ntmps56
        go_wp2_with fail
        generalize ((w.alloc _).alloc _) = W0 at *
        go_loopw [5] (fun i wr => ∃ k : Nat, k ≤ L.length ∧ i = .int .i64 k ∧ Hid (∀ j, j < k → rr L j = rr L' j) ∧ Hid (∃ d, wr = W0.drewN d)) (fun i _ => L.length - (intOf i).toNat)
        case atStart => exact ⟨0, Nat.zero_le _, rfl, fun j hj => absurd hj (by omega), 0, rfl⟩
        case round =>
          obtain ⟨k, hk, rfl, hA, hD⟩ := hrel
          have hxr : Tri wr w.heap.size (.slice a L.length c1) (.slice b B1.length c2) (.int .i64 C) 50 := by obtain ⟨d, rfl⟩ := hD.out; exact Hx.out
          have hyr : Tri wr (w.heap.size + 1) (.slice a' L'.length d1) (.slice b' B1'.length d2) (.int .i64 C') 50 := by obtain ⟨d, rfl⟩ := hD.out; exact Hy.out
          obtain ⟨x0, x1, x2, _⟩ := hxr.cells
          obtain ⟨y0, y1, y2, _⟩ := hyr.cells
          clear hxr hyr
          by_cases hlt : k < L.length
          · have g1 : TabIn w.heap.size wr a b ⟨L, B1, C⟩ := by obtain ⟨d, rfl⟩ := hD.out; exact Hz.out.drewN d
            have g2 : TabIn w.heap.size wr a' b' ⟨L', B1', C'⟩ := by obtain ⟨d, rfl⟩ := hD.out; exact Hz'.out.drewN d
            have hlt' : k < L'.length := by have := E1.out; omega
            obtain ⟨b1, o1, a1, k1, rfl, _, p1, n1⟩ := g1.mR k hlt
            obtain ⟨b2, o2, a2, k2, rfl, _, p2, n2⟩ := g2.mR k hlt'
            simp only at p1 p2 n1 n2
            have N1 := Lib.hid n1
            have N2 := Lib.hid n2
            have M1 : Hid ((rr L k).length ≤ 1048576) := HW.out k hlt
            have M2 : Hid ((rr L' k).length ≤ 1048576) := HW'.out k hlt'
            have kk1 : (k : Int) < (L.length : Int) := by omega
            have kk2 : (k : Int) < (L'.length : Int) := by omega
            clear n1 n2 g1 g2
            rcases hv : eqV (rr L k) (rr L' k) with _ | _
            · have Hr := Lib.hid (show false = g from (same_no_rows (s := ⟨L, B1, C⟩) (t := ⟨L', B1', C'⟩) (fun e => by
                  simp only at e
                  rw [e] at hv
                  simp [eqV] at hv)).symm.trans Hg.out)
              have Hv := Lib.hid hv
              clear hv
              generalize rr L k = x at *
              generalize rr L' k = y at *
              go_wp2_with fail
              go_quiet (first | (go_at_call 39; exact Calls.quiet_of (spec_eqv w.heap.size a1 a2 k1 k2 x y M1.out M2.out false Hv.out _ (N1.out.drewN _) (N2.out.drewN _))))
              go_wp2_with fail
              go_ret
              exact ⟨ret_bool Hr.out, by obtain ⟨d, rfl⟩ := hD.out; exact below_drewN (below_drewN Hb.out d) nq⟩
            · have HA2 : Hid (∀ j, j < k + 1 → rr L j = rr L' j) := fun j hj => by
                by_cases e : j = k
                · subst e
                  simpa [eqV] using hv
                · exact hA.out j (by omega)
              have Hv := Lib.hid hv
              clear hv
              generalize rr L k = x at *
              generalize rr L' k = y at *
              go_wp2_with fail
              go_quiet (first | (go_at_call 39; exact Calls.quiet_of (spec_eqv w.heap.size a1 a2 k1 k2 x y M1.out M2.out true Hv.out _ (N1.out.drewN _) (N2.out.drewN _))))
              go_wp2_with fail
              go_roundw
              case rel => exact ⟨k + 1, by omega, by go_num, HA2, by obtain ⟨d, rfl⟩ := hD.out; exact ⟨d + nq, by simp [Nat.add_comm]⟩⟩
              case measure => simp [intOf]; omega
          · have ER := Lib.hid (rows_same E1.out fun j hj => hA.out j (by omega))
            clear hA
            go_wp2_with fail
            go_loopw [6] (fun i wr => ∃ k : Nat, k ≤ B1.length ∧ i = .int .i64 k ∧ Hid (∀ j, j < k → B1.getD j 0 = B1'.getD j 0) ∧ Hid (∃ d, wr = W0.drewN d)) (fun i _ => B1.length - (intOf i).toNat)
            case atStart => exact ⟨0, Nat.zero_le _, rfl, fun j hj => absurd hj (by omega), hD.out⟩
            case round =>
              clear x0 x1 x2 y0 y1 y2 hD hlt hk
              obtain ⟨k, hk, rfl, hA, hD⟩ := hrel
              have hxr : Tri wr w.heap.size (.slice a L.length c1) (.slice b B1.length c2) (.int .i64 C) 50 := by obtain ⟨d, rfl⟩ := hD.out; exact Hx.out
              have hyr : Tri wr (w.heap.size + 1) (.slice a' L'.length d1) (.slice b' B1'.length d2) (.int .i64 C') 50 := by obtain ⟨d, rfl⟩ := hD.out; exact Hy.out
              obtain ⟨x0, x1, x2, _⟩ := hxr.cells
              obtain ⟨y0, y1, y2, _⟩ := hyr.cells
              clear hxr hyr
              by_cases hlt : k < B1.length
              · have g1 : TabIn w.heap.size wr a b ⟨L, B1, C⟩ := by obtain ⟨d, rfl⟩ := hD.out; exact Hz.out.drewN d
                have g2 : TabIn w.heap.size wr a' b' ⟨L', B1', C'⟩ := by obtain ⟨d, rfl⟩ := hD.out; exact Hz'.out.drewN d
                have hlt' : k < B1'.length := by have := E2.out; omega
                obtain ⟨b1, o1, rfl, _, p1⟩ := g1.mB k hlt
                obtain ⟨b2, o2, rfl, _, p2⟩ := g2.mB k hlt'
                simp only at p1 p2
                have kk1 : (k : Int) < (B1.length : Int) := by omega
                have kk2 : (k : Int) < (B1'.length : Int) := by omega
                clear g1 g2
                rcases hv : (B1.getD k 0 != B1'.getD k 0) with _ | _
                · have HA2 : Hid (∀ j, j < k + 1 → B1.getD j 0 = B1'.getD j 0) := fun j hj => by
                    by_cases e : j = k
                    · subst e
                      simpa using hv
                    · exact hA.out j (by omega)
                  generalize B1.getD k 0 = x at *
                  generalize B1'.getD k 0 = y at *
                  go_wp2_with fail
                  go_quiet (fail)
                  go_wp2_with fail
                  go_roundw
                  case rel => exact ⟨k + 1, by omega, by go_num, HA2, by obtain ⟨d, rfl⟩ := hD.out; exact ⟨d + nq, by simp [Nat.add_comm]⟩⟩
                  case measure => simp [intOf]; omega
                · have Hr := Lib.hid (show false = g from (same_no_basis (s := ⟨L, B1, C⟩) (t := ⟨L', B1', C'⟩) (fun e => by
                    simp only at e
                    rw [e] at hv
                    simp at hv)).symm.trans Hg.out)
                  generalize B1.getD k 0 = x at *
                  generalize B1'.getD k 0 = y at *
                  go_wp2_with fail
                  go_quiet (fail)
                  go_wp2_with fail
                  go_ret
                  exact ⟨ret_bool Hr.out, by obtain ⟨d, rfl⟩ := hD.out; exact below_drewN (below_drewN Hb.out d) nq⟩
              · have EB := ints_same E2.out fun j hj => hA.out j (by omega)
                have Hr := Lib.hid (show true = g from (same_yes (s := ⟨L, B1, C⟩) (t := ⟨L', B1', C'⟩) E0.out ER.out EB).symm.trans Hg.out)
                clear EB
                go_wp2_with fail
                go_ret
                exact ⟨ret_bool Hr.out, by obtain ⟨d, rfl⟩ := hD.out; exact below_drewN Hb.out d⟩
      · have Hr := Lib.hid (show false = g from (same_no_basis (s := ⟨L, B1, C⟩) (t := ⟨L', B1', C'⟩) (fun e => by simp only at e; exact e2 (by rw [e]))).symm.trans Hg.out)
        obtain ⟨l1, l2⟩ := len_no e2
        go_enter Try.func56, Try.ntmps56
        go_wp2_with fail
        go_ret
        exact ⟨ret_bool Hr.out, Hb.out⟩
    · have Hr := Lib.hid (show false = g from (same_no_rows (s := ⟨L, B1, C⟩) (t := ⟨L', B1', C'⟩) (fun e => by simp only at e; exact e1 (by rw [e]))).symm.trans Hg.out)
      obtain ⟨l1, l2⟩ := len_no e1
      go_enter Try.func56, Try.ntmps56
      go_wp2_with fail
      go_ret
      exact ⟨ret_bool Hr.out, Hb.out⟩
  · have t0 : (C != C') = true := by rw [bne_iff_ne]; exact e0
    have Hr := Lib.hid (show false = g from (same_no_cols (s := ⟨L, B1, C⟩) (t := ⟨L', B1', C'⟩) e0).symm.trans Hg.out)
    go_enter Try.func56, Try.ntmps56
    go_wp2_with fail
    go_ret
    exact ⟨ret_bool Hr.out, Hb.out⟩
end Go.Proofs.Ytafkjebfdmgdeaa
