/- From the form of the rows to the walks of layer 4: the powers of ten in their table. -/
import Derived.Test.YtbeohedkeklaiaaGreatDoorParti
import Derived.Test.YtbeohedkeklaiaaGreatDoorDeciF
import Derived.LaidLaws
import Derived.Lay
import Derived.Lib.LaidTab
import Derived.Stop.LaidErr
import Derived.ChangeMaps5
namespace Go.Proofs.YtbeohedkeklaiaaGreatDoor
open Go.ChangeShapes Go.WideShapes Go.RowKit Go.MagM
theorem tensName : Tryz.prog.globalNamed "internal/strconv.uint64pow10" = some 3 := by kernel_rfl
theorem tensType : (Tryz.prog.globals[3]?).map (·.type) = some 177 := by kernel_rfl
theorem tensUnder : Tryz.prog.underlying 177 = some (.array 20 49) := by kernel_rfl
theorem tensElem : Tryz.prog.underlying 49 = some (.int .u64) := by kernel_rfl
theorem tensCells1 : Tryz.prog.cellsOf 49 = 1 := by kernel_rfl
theorem tensCells : Tryz.prog.cellsOf 177 = 20 := by kernel_rfl
theorem tensData : (Rows.laid_internal_strconv_uint64pow10 : DataW Unit) = Lib.tabData .u64 Lib.pow10Tab := by kernel_rfl
/-- What the condition on the tables gives a walk. -/
theorem tens_of_laid {W : World} (h : laidMet Tryz.prog [("math/bits.deBruijn32tab", Rows.laid_math_bits_deBruijn32tab), ("math/bits.deBruijn64tab", Rows.laid_math_bits_deBruijn64tab), ("internal/strconv.uint64pow10", Rows.laid_internal_strconv_uint64pow10), ("unicode/utf8.acceptRanges", Rows.laid_unicode_utf8_acceptRanges), ("unicode/utf8.first", Rows.laid_unicode_utf8_first)] W) : Tens W := by
  have h2 := h.tail.tail
  rw [tensData] at h2
  exact ⟨Lib.tabIs_of_head tensName tensType tensUnder tensElem tensCells1 tensCells h2⟩
end Go.Proofs.YtbeohedkeklaiaaGreatDoor
