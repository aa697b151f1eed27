/- What a row's list of eight variables (one of them the handle of the type error) gives: what strconv, the library's search and errors.As read. -/
import Derived.Test.YtambneapofaclaaGreatDoorGtD
import Derived.Test.YtambneapofaclaaGreatDoorRows
import Derived.Lib.LaidTab
import Derived.Stop.LaidErr
import Derived.LaidHandle
import Derived.LaidSub
namespace Go.Proofs.YtambneapofaclaaGreatDoor
open Go.RowKit
theorem tPow : (Tryz.prog.globals[2]?).map (·.type) = some 128 := by kernel_rfl
theorem tSyn : (Tryz.prog.globals[3]?).map (·.type) = some 42 := by kernel_rfl
theorem tRng : (Tryz.prog.globals[4]?).map (·.type) = some 42 := by kernel_rfl
theorem cellsPow : Tryz.prog.cellsOf 128 = 20 := by kernel_rfl
theorem cellsU64 : Tryz.prog.cellsOf 120 = 1 := by kernel_rfl
theorem cellsErrS : Tryz.prog.cellsOf 160 = 1 := by kernel_rfl
theorem cellsString : Tryz.prog.cellsOf 9 = 1 := by kernel_rfl
theorem rowErr (u : TypeId) (h : Tryz.prog.typeName? 3 u = some "*errors.errorString") : u = 158 :=
  typeName_ptr_named (nm := "errors.errorString") (by kernel_rfl) (by kernel_rfl) (by decide) u h
theorem gErr : Tryz.prog.globalNamed "errors.errorType" = some 0 := by kernel_rfl
theorem rtRow : (Tryz.prog.cutTypes.find? (·.1 == "internal/reflectlite.rtype")).map (·.2) = some 96 := by kernel_rfl
theorem errRow : ((List.range (289 - 100)).filter fun t => Tryz.prog.rowNamed t [101, 114, 114, 111, 114]) = [42] := by kernel_rfl
theorem typesN : Tryz.prog.types.size = 289 - 100 := by kernel_rfl
/-- The list. -/
def laid8 : List (String × DataW Unit) := [("math/bits.deBruijn32tab", Rows.laid_math_bits_deBruijn32tab), ("math/bits.deBruijn64tab", Rows.laid_math_bits_deBruijn64tab), ("internal/strconv.uint64pow10", Rows.laid_internal_strconv_uint64pow10), ("unicode/utf8.acceptRanges", Rows.laid_unicode_utf8_acceptRanges), ("errors.errorType", Rows.laid_errors_errorType), ("strconv.ErrRange", Rows.laid_strconv_ErrRange), ("strconv.ErrSyntax", Rows.laid_strconv_ErrSyntax), ("unicode/utf8.first", Rows.laid_unicode_utf8_first)]
def laid7 : List (String × DataW Unit) := [("math/bits.deBruijn32tab", Rows.laid_math_bits_deBruijn32tab), ("math/bits.deBruijn64tab", Rows.laid_math_bits_deBruijn64tab), ("internal/strconv.uint64pow10", Rows.laid_internal_strconv_uint64pow10), ("unicode/utf8.acceptRanges", Rows.laid_unicode_utf8_acceptRanges), ("strconv.ErrRange", Rows.laid_strconv_ErrRange), ("strconv.ErrSyntax", Rows.laid_strconv_ErrSyntax), ("unicode/utf8.first", Rows.laid_unicode_utf8_first)]
theorem filter7 : laid8.filter (fun x => x.2.handleName?.isNone) = laid7 := by rfl
theorem filter1 : laid8.filter (fun x => x.2.handleName?.isSome) = [("errors.errorType", Rows.laid_errors_errorType)] := by rfl
theorem err_of {W : World} (h : handlesMet Tryz.prog [("errors.errorType", Rows.laid_errors_errorType)] W) : ErrAt W := by
  obtain ⟨name, u, ty, e1, e2, e3, e4, e5⟩ := h _ (List.mem_singleton.2 rfl)
  have en : name = [101, 114, 114, 111, 114] := (Option.some.inj e1).symm
  subst en
  obtain rfl := Option.some.inj (rtRow.symm.trans e2)
  have hm : ty ∈ (List.range (289 - 100)).filter fun t => Tryz.prog.rowNamed t [101, 114, 114, 111, 114] := List.mem_filter.2 ⟨List.mem_range.2 (by rw [← typesN]; exact e3), e4⟩
  rw [errRow] at hm
  obtain rfl := List.mem_singleton.1 hm
  have hh : typeHandle Tryz.prog 42 = .pointer (some ⟨9, 42, none⟩) := by kernel_rfl
  rw [hh] at e5
  unfold ErrAt
  simpa using World.var?_cell gErr e5 0
theorem env_of {W : World} (h : laidMetH Tryz.prog laid8 W) (hSh : W.ShapedOpen Tryz.prog) : Env W := by
  obtain ⟨h1, h2⟩ := laidMetH_iff.1 h
  rw [filter7] at h1
  rw [filter1] at h2
  unfold laid7 at h1
  have h3 := h1.tail.tail
  obtain ⟨a0, s0, hv0, -, -, -⟩ := laid_sentinel h3.tail.tail gRng tRng Tryz.underlying42 rowErr Tryz.underlying158 Tryz.underlying160 rfl rfl Tryz.underlying9 cellsErrS cellsString
  obtain ⟨a1, s1, hv1, -, -, -⟩ := laid_sentinel h3.tail.tail.tail gSyn tSyn Tryz.underlying42 rowErr Tryz.underlying158 Tryz.underlying160 rfl rfl Tryz.underlying9 cellsErrS cellsString
  exact ⟨⟨Lib.tabIs_of_head gPow tPow Tryz.underlying128 Tryz.underlying120 cellsU64 cellsPow h3, ⟨_, _, hv1⟩, ⟨_, _, hv0⟩⟩, Tryz.laysM146.s1_3 W hSh, err_of h2⟩
end Go.Proofs.YtambneapofaclaaGreatDoor
