/-
  WHAT THE ROWS' LISTS GIVE over this seat's translation: the library's table of powers of ten holds its numbers; the library's two sentinels hold interface values.
-/
import Derived.Test.YtddomgankmkggaaDoorRows
import Derived.WalkKit
import Derived.ProofKit
import Derived.LaidMore
import Derived.Lib.LaidTab
import Derived.Lib.ItoaNum
import Derived.Stop.LaidErr
import Derived.Test.YtddomgankmkggaaDoorEnv
namespace Go.Proofs.YtddomgankmkggaaDoor.Laid
open Go.RowKit

theorem gTab : Tryd.prog.globalNamed "internal/strconv.uint64pow10" = some 3 := by kernel_rfl
theorem gTabType : (Tryd.prog.globals[3]?).map (·.type) = some 90 := by kernel_rfl
theorem cellsTab : Tryd.prog.cellsOf 90 = 20 := by kernel_rfl
theorem cellsU : Tryd.prog.cellsOf 68 = 1 := by kernel_rfl

theorem pow10_of3 {W : World} (h : laidMetH Tryd.prog Rows.fnExactTickTextRow.laid W) : Lib.TabIs Tryd.prog W "internal/strconv.uint64pow10" .u64 Lib.pow10Tab := by
  rw [MakeChecks.laidMetH_plain _ _ _ (by kernel_rfl)] at h
  exact Lib.tabIs_of_head (rest := []) gTab gTabType Tryd.underlying90 Tryd.underlying68 cellsU cellsTab h.tail.tail

theorem gES : Tryd.prog.globalNamed "strconv.ErrSyntax" = some 1 := by kernel_rfl
theorem gESType : (Tryd.prog.globals[1]?).map (·.type) = some 45 := by kernel_rfl
theorem gER : Tryd.prog.globalNamed "strconv.ErrRange" = some 2 := by kernel_rfl
theorem gERType : (Tryd.prog.globals[2]?).map (·.type) = some 45 := by kernel_rfl
theorem cellsE : Tryd.prog.cellsOf 83 = 1 := by kernel_rfl
theorem cellsS : Tryd.prog.cellsOf 9 = 1 := by kernel_rfl
theorem star : "*" ++ "errors.errorString" = "*errors.errorString" := by decide
theorem rowE (u : TypeId) (h : Tryd.prog.typeName? 3 u = some "*errors.errorString") : u = 81 :=
  typeName_ptr_named (nm := "errors.errorString") (by rw [star]; kernel_rfl) (by kernel_rfl) (by decide) u (by rw [star]; exact h)

theorem lib3 {W : World} (h : laidMetH Tryd.prog Rows.fnExactParseTickRow.laid W) (hsh : W.ShapedOpen Tryd.prog) : Env.Lib3 W.heap.size W := by
  rw [MakeChecks.laidMetH_plain _ _ _ (by kernel_rfl)] at h
  have ht := Lib.tabIs_of_head (k := .u64) (zs := Lib.pow10Tab) gTab gTabType Tryd.underlying90 Tryd.underlying68 cellsU cellsTab h.tail.tail
  obtain ⟨a1, s1, hv1, -, -, -⟩ := laid_sentinel h.tail.tail.tail gER gERType Tryd.underlying45 rowE Tryd.underlying81 Tryd.underlying83 rfl rfl Tryd.underlying9 cellsE cellsS
  obtain ⟨a0, s0, hv0, -, -, -⟩ := laid_sentinel h.tail.tail.tail.tail gES gESType Tryd.underlying45 rowE Tryd.underlying81 Tryd.underlying83 rfl rfl Tryd.underlying9 cellsE cellsS
  obtain ⟨m, hm⟩ := Tryd.laysM145.s1_3 W hsh
  refine ⟨Nat.le_refl _, Lib.tabBelow_of_tabIs ht, fun w' hb => ⟨m, ?_⟩, fun w' hb => ⟨_, _, Env.var_on hv0 hb⟩, fun w' hb => ⟨_, _, Env.var_on hv1 hb⟩⟩
  have hlt := World.block_lt_of_cell? W _ hm
  exact (hb.cell hlt).trans hm
end Go.Proofs.YtddomgankmkggaaDoor.Laid
