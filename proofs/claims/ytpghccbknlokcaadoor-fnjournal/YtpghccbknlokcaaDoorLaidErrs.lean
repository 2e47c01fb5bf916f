/-
  WHAT THE ROWS' LISTS GIVE over this seat's translation: the program's three faults hold pointers to texts that are not the same.
-/
import Derived.Test.YtpghccbknlokcaaDoorRows
import Derived.Test.YtpghccbknlokcaaDoorReader
import Derived.LaidMore
import Derived.Stop.LaidErr
import Derived.Stop.LaidTwo
namespace Go.Proofs.YtpghccbknlokcaaDoor.Rd
open Go.RowKit
set_option linter.unusedVariables false

theorem gT : Tryd.prog.globalNamed "loop.example/g00734/impl.errTorn" = some 1 := by kernel_rfl
theorem gTt : (Tryd.prog.globals[1]?).map (·.type) = some 82 := by kernel_rfl
theorem gB : Tryd.prog.globalNamed "loop.example/g00734/impl.errBent" = some 2 := by kernel_rfl
theorem gBt : (Tryd.prog.globals[2]?).map (·.type) = some 82 := by kernel_rfl
theorem gO : Tryd.prog.globalNamed "loop.example/g00734/impl.errOutside" = some 0 := by kernel_rfl
theorem gOt : (Tryd.prog.globals[0]?).map (·.type) = some 82 := by kernel_rfl
theorem cellsE : Tryd.prog.cellsOf 136 = 1 := by kernel_rfl
theorem cellsS : Tryd.prog.cellsOf 9 = 1 := by kernel_rfl
theorem star : "*" ++ "errors.errorString" = "*errors.errorString" := by decide
theorem rowE (u : TypeId) (h : Tryd.prog.typeName? 3 u = some "*errors.errorString") : u = 111 :=
  typeName_ptr_named (nm := "errors.errorString") (by rw [star]; kernel_rfl) (by kernel_rfl) (by decide) u (by rw [star]; exact h)

theorem cell_of_var {W : World} {n : String} {g : Nat} {v : Value} (hg : Tryd.prog.globalNamed n = some g) (h : W.var? Tryd.prog n = some #[v]) : W.cell? ⟨g, 0, none⟩ = some v := by
  have h1 := World.var?_cell hg h 0
  simpa using h1

theorem errs_laid {W : World} (h : laidMetH Tryd.prog Rows.fnExactReadJournalRow.laid W) : ∃ aT aB aO, Errs W.heap.size W aT aB aO ∧ (∃ s, W.cell? aT = some (.string s)) ∧ (∃ s, W.cell? aB = some (.string s)) ∧ aB ≠ aT := by
  rw [MakeChecks.laidMetH_plain _ _ _ (by kernel_rfl)] at h
  obtain ⟨aT, sT, hvT, hcT, htT, -⟩ := laid_sentinel h gT gTt Tryd.underlying82 rowE Tryd.underlying111 Tryd.underlying136 rfl rfl Tryd.underlying9 cellsE cellsS
  obtain ⟨aB, sB, hvB, hcB, htB, -⟩ := laid_sentinel h.tail gB gBt Tryd.underlying82 rowE Tryd.underlying111 Tryd.underlying136 rfl rfl Tryd.underlying9 cellsE cellsS
  obtain ⟨aO, sO, hvO, hcO, htO, -⟩ := laid_sentinel h.tail.tail gO gOt Tryd.underlying82 rowE Tryd.underlying111 Tryd.underlying136 rfl rfl Tryd.underlying9 cellsE cellsS
  have c1 := cell_of_var gT hvT
  have c2 := cell_of_var gB hvB
  have c3 := cell_of_var gO hvO
  refine ⟨aT, aB, aO, ⟨⟨World.block_lt_of_cell? W _ c1, World.block_lt_of_cell? W _ c2, World.block_lt_of_cell? W _ c3⟩, c1, c2, c3⟩, ⟨sT, hcT⟩, ⟨sB, hcB⟩, ?_⟩
  intro e
  rw [e, hcT] at hcB
  injection hcB with hcB
  injection hcB with hcB
  rw [← hcB, htT] at htB
  revert htB
  decide
/-- .. and where their texts lie. -/
theorem errs_laid2 {W : World} (h : laidMetH Tryd.prog Rows.fnExactReadJournalRow.laid W) : ∃ aT aB aO, Errs W.heap.size W aT aB aO ∧ (aT.block < W.heap.size ∧ aB.block < W.heap.size) ∧ aB ≠ aT ∧ (∃ c t, W.heap[aT.block]? = some (.cells c t (0, 0))) ∧ (∃ c t, W.heap[aB.block]? = some (.cells c t (0, 0))) := by
  rw [MakeChecks.laidMetH_plain _ _ _ (by kernel_rfl)] at h
  obtain ⟨aT, aB, sT, sB, cT, cB, tT, tB, hvT, hvB, hcT, -, -, hcB, -, -, hne, hbT, hbB⟩ := laid_sentinels2 h gT gTt gB gBt Tryd.underlying82 rowE Tryd.underlying111 Tryd.underlying136 rfl rfl Tryd.underlying9 cellsE cellsS
  obtain ⟨aO, sO, hvO, hcO, htO, -⟩ := laid_sentinel h.tail.tail gO gOt Tryd.underlying82 rowE Tryd.underlying111 Tryd.underlying136 rfl rfl Tryd.underlying9 cellsE cellsS
  have c1 := cell_of_var gT hvT
  have c2 := cell_of_var gB hvB
  have c3 := cell_of_var gO hvO
  exact ⟨aT, aB, aO, ⟨⟨World.block_lt_of_cell? W _ c1, World.block_lt_of_cell? W _ c2, World.block_lt_of_cell? W _ c3⟩, c1, c2, c3⟩, ⟨World.block_lt_of_cell? W _ hcT, World.block_lt_of_cell? W _ hcB⟩, Ne.symm hne, ⟨cT, tT, hbT⟩, ⟨cB, tB, hbB⟩⟩
end Go.Proofs.YtpghccbknlokcaaDoor.Rd
