/- The walk of FnExactParseGame: for every text the law returns true. -/
import Derived.Test.YtambneapofaclaaGreatDoorGtF
import Derived.Test.YtambneapofaclaaGreatDoorGtL2
import Derived.Test.YtambneapofaclaaGreatDoorEnv
namespace Go.Proofs.YtambneapofaclaaGreatDoor
open Go.RowKit
open Gm (G G0)
theorem Gt.fold_len : ∀ {ls : List ByteArray} {k : Nat} {vs vs' : List Int} {a a' : Nat}, Gt.fold ls k vs a = .inr (vs', a') → vs'.length = vs.length
  | [], k, vs, vs', a, a', h => by
    have h2 : (Sum.inr (vs, a) : Nat ⊕ (List Int × Nat)) = .inr (vs', a') := h
    injection h2 with h2
    injection h2 with h3 h4
    rw [h3]
  | l :: ls, k, vs, vs', a, a', h => by
    rcases hf : Gt.fits a vs.length (Gt.rdLine l) with _ | _
    · rw [Gt.fold_bad hf] at h; cases h
    · rcases hr : Gt.rdLine l with _ | ⟨s, v⟩
      · rw [hr] at hf; cases hf
      · rw [hr] at hf
        obtain ⟨h2, h3⟩ := of_decide_eq_true hf
        rw [Gt.fold_good hr h2 h3] at h
        rw [Gt.fold_len h, List.length_set]
theorem parse_ok (t : ByteArray) : GmOk (Gt.parse t).1 := by
  have z0 : GmOk G0 := ⟨by decide, by decide⟩
  rcases h : Gt.lines t with _ | ⟨l, ls⟩
  · rw [Gt.parse_none h]; exact z0
  · rcases h2 : Gt.rdFirst l with _ | n
    · rw [Gt.parse_first h h2]; exact z0
    · have hn := first_in h2
      have hz := zeros_len hn
      rcases h3 : Gt.fold ls 1 (Gt.zeros n) 0 with k | ⟨vs, a⟩
      · rw [Gt.parse_line h h2 h3]; exact z0
      · have hl := Gt.fold_len h3
        by_cases h4 : Gt.text ⟨n, vs⟩ = t
        · rw [Gt.parse_yes h h2 h3 h4]
          exact ⟨by show vs.length ≤ 1048576; omega, (show (Lit.int .i64 n).wf = true from WalkArith.wf_i64 (by omega))⟩
        · rw [Gt.parse_no h h2 h3 h4]; exact z0
theorem fnExactParseGame.walk (t : ByteArray) (_ : t.size ≤ maxLen) (w : World) (he : Env w) :
    Calls Tryz.prog 4 #[.string t] w fun e w' => e = .returned (.bool true) ∧ Below w.heap.size w w' :=
  fnExactParseGame.walk_c t (Gt.parse t).1 (Gt.parse t).2 (fun _ => parse_ok t) (fun h w => spec_ParseGame t h w) (fun h w e => impl_ParseGame t h w e) w he
end Go.Proofs.YtambneapofaclaaGreatDoor
