/-
  WHAT THE ROWS' LISTS GIVE over this seat's translation: the library's table of powers of ten holds its numbers; the library's two sentinels hold interface values.
-/
import Derived.Test.YtddomgankmkggaaDoorRows
import Derived.WalkKit
import Derived.ProofKit
import Derived.LaidMore
import Derived.Lib.LaidTab
import Derived.Lib.ItoaNum
import Derived.Stop.LaidErr
namespace Go.Proofs.YtddomgankmkggaaDoor.Laid
open Go.RowKit

theorem gTab : Tryd.prog.globalNamed "internal/strconv.uint64pow10" = some 3 := by kernel_rfl
theorem gTabType : (Tryd.prog.globals[3]?).map (·.type) = some 90 := by kernel_rfl
theorem cellsTab : Tryd.prog.cellsOf 90 = 20 := by kernel_rfl
theorem cellsU : Tryd.prog.cellsOf 68 = 1 := by kernel_rfl

theorem pow10_of3 {W : World} (h : laidMetH Tryd.prog Rows.fnExactTickTextRow.laid W) : Lib.TabIs Tryd.prog W "internal/strconv.uint64pow10" .u64 Lib.pow10Tab := by
  rw [MakeChecks.laidMetH_plain _ _ _ (by kernel_rfl)] at h
  exact Lib.tabIs_of_head (rest := []) gTab gTabType Tryd.underlying90 Tryd.underlying68 cellsU cellsTab h.tail.tail
end Go.Proofs.YtddomgankmkggaaDoor.Laid
