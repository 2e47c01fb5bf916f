/-
  WHAT THE LIST OF THE ROW OF JournalText GIVES over this seat's translation: the table of powers of ten, and the program's three faults.
-/
import Derived.Test.YtpgmcafefoggaaaDoorLaidErrs
import Derived.Lib.LaidTab
import Derived.Lib.ItoaNum
namespace Go.Proofs.YtpgmcafefoggaaaDoor.Rd
open Go.RowKit
set_option linter.unusedVariables false

theorem gTab : Tryd.prog.globalNamed "internal/strconv.uint64pow10" = some 3 := by kernel_rfl
theorem gTabType : (Tryd.prog.globals[3]?).map (·.type) = some 121 := by kernel_rfl
theorem cellsTab : Tryd.prog.cellsOf 121 = 20 := by kernel_rfl
theorem cellsU : Tryd.prog.cellsOf 104 = 1 := by kernel_rfl
theorem tab_text {W : World} (h : laidMetH Tryd.prog Rows.fnExactJournalTextRow.laid W) : Lib.TabIs Tryd.prog W "internal/strconv.uint64pow10" .u64 Lib.pow10Tab := by
  rw [MakeChecks.laidMetH_plain _ _ _ (by kernel_rfl)] at h
  exact Lib.tabIs_of_head gTab gTabType Tryd.underlying121 Tryd.underlying104 cellsU cellsTab h.tail.tail
theorem errs_text {W : World} (h : laidMetH Tryd.prog Rows.fnExactJournalTextRow.laid W) : ∃ aT aB aO, Errs W.heap.size W aT aB aO ∧ (aT.block < W.heap.size ∧ aB.block < W.heap.size) ∧ aB ≠ aT ∧ (∃ c t, W.heap[aT.block]? = some (.cells c t (0, 0))) ∧ (∃ c t, W.heap[aB.block]? = some (.cells c t (0, 0))) := by
  rw [MakeChecks.laidMetH_plain _ _ _ (by kernel_rfl)] at h
  have h := h.tail.tail.tail
  obtain ⟨aT, aB, sT, sB, cT, cB, tT, tB, hvT, hvB, hcT, -, -, hcB, -, -, hne, hbT, hbB⟩ := laid_sentinels2 h gT gTt gB gBt Tryd.underlying84 rowE Tryd.underlying128 Tryd.underlying152 rfl rfl Tryd.underlying9 cellsE cellsS
  obtain ⟨aO, sO, hvO, hcO, htO, -⟩ := laid_sentinel h.tail.tail gO gOt Tryd.underlying84 rowE Tryd.underlying128 Tryd.underlying152 rfl rfl Tryd.underlying9 cellsE cellsS
  have c1 := cell_of_var gT hvT
  have c2 := cell_of_var gB hvB
  have c3 := cell_of_var gO hvO
  exact ⟨aT, aB, aO, ⟨⟨World.block_lt_of_cell? W _ c1, World.block_lt_of_cell? W _ c2, World.block_lt_of_cell? W _ c3⟩, c1, c2, c3⟩, ⟨World.block_lt_of_cell? W _ hcT, World.block_lt_of_cell? W _ hcB⟩, Ne.symm hne, ⟨cT, tT, hbT⟩, ⟨cB, tB, hbB⟩⟩
end Go.Proofs.YtpgmcafefoggaaaDoor.Rd
