/-
  WHAT THE ROWS' LISTS GIVE over this seat's translation, for the laws that parse specs: the library's table of powers of ten holds its numbers; the library's two sentinels hold interface values.
-/
import Derived.Test.YtfabioccnaooeaaDoorRows
import Derived.WalkKit
import Derived.ProofKit
import Derived.LaidMore
import Derived.Lib.LaidTab
import Derived.Lib.ItoaNum
import Derived.Stop.LaidErr
import Derived.Test.YtfabioccnaooeaaDoorEnv
namespace Go.Proofs.YtfabioccnaooeaaDoor.LaidSp
open Go.RowKit

theorem gTab : Tryd.prog.globalNamed "internal/strconv.uint64pow10" = some 2 := by kernel_rfl
theorem gTabType : (Tryd.prog.globals[2]?).map (·.type) = some 110 := by kernel_rfl
theorem cellsTab : Tryd.prog.cellsOf 110 = 20 := by kernel_rfl
theorem cellsU : Tryd.prog.cellsOf 90 = 1 := by kernel_rfl

theorem gES : Tryd.prog.globalNamed "strconv.ErrSyntax" = some 0 := by kernel_rfl
theorem gESType : (Tryd.prog.globals[0]?).map (·.type) = some 55 := by kernel_rfl
theorem gER : Tryd.prog.globalNamed "strconv.ErrRange" = some 1 := by kernel_rfl
theorem gERType : (Tryd.prog.globals[1]?).map (·.type) = some 55 := by kernel_rfl
theorem cellsE : Tryd.prog.cellsOf 118 = 1 := by kernel_rfl
theorem cellsS : Tryd.prog.cellsOf 9 = 1 := by kernel_rfl
theorem star : "*" ++ "errors.errorString" = "*errors.errorString" := by decide
theorem rowE (u : TypeId) (h : Tryd.prog.typeName? 3 u = some "*errors.errorString") : u = 116 :=
  typeName_ptr_named (nm := "errors.errorString") (by rw [star]; kernel_rfl) (by kernel_rfl) (by decide) u (by rw [star]; exact h)

theorem lib3P {W : World} (h : laidMetH Tryd.prog Rows.fnExactParseSpecRow.laid W) (hsh : W.ShapedOpen Tryd.prog) : Env.Lib3 W.heap.size W := by
  rw [MakeChecks.laidMetH_plain _ _ _ (by kernel_rfl)] at h
  have ht := Lib.tabIs_of_head (k := .u64) (zs := Lib.pow10Tab) gTab gTabType Tryd.underlying110 Tryd.underlying90 cellsU cellsTab h.tail.tail
  obtain ⟨a1, s1, hv1, -, -, -⟩ := laid_sentinel h.tail.tail.tail.tail gER gERType Tryd.underlying55 rowE Tryd.underlying116 Tryd.underlying118 rfl rfl Tryd.underlying9 cellsE cellsS
  obtain ⟨a0, s0, hv0, -, -, -⟩ := laid_sentinel h.tail.tail.tail.tail.tail gES gESType Tryd.underlying55 rowE Tryd.underlying116 Tryd.underlying118 rfl rfl Tryd.underlying9 cellsE cellsS
  obtain ⟨m, hm⟩ := Tryd.laysM147.s1_3 W hsh
  refine ⟨Nat.le_refl _, Lib.tabBelow_of_tabIs ht, fun w' hb => ⟨m, ?_⟩, fun w' hb => ⟨_, _, Env.var_on hv0 hb⟩, fun w' hb => ⟨_, _, Env.var_on hv1 hb⟩⟩
  have hlt := World.block_lt_of_cell? W _ hm
  exact (hb.cell hlt).trans hm
theorem lib3S {W : World} (h : laidMetH Tryd.prog Rows.fnSpecsRow.laid W) (hsh : W.ShapedOpen Tryd.prog) : Env.Lib3 W.heap.size W := by
  rw [MakeChecks.laidMetH_plain _ _ _ (by kernel_rfl)] at h
  have ht := Lib.tabIs_of_head (k := .u64) (zs := Lib.pow10Tab) gTab gTabType Tryd.underlying110 Tryd.underlying90 cellsU cellsTab h.tail.tail
  obtain ⟨a1, s1, hv1, -, -, -⟩ := laid_sentinel h.tail.tail.tail.tail gER gERType Tryd.underlying55 rowE Tryd.underlying116 Tryd.underlying118 rfl rfl Tryd.underlying9 cellsE cellsS
  obtain ⟨a0, s0, hv0, -, -, -⟩ := laid_sentinel h.tail.tail.tail.tail.tail gES gESType Tryd.underlying55 rowE Tryd.underlying116 Tryd.underlying118 rfl rfl Tryd.underlying9 cellsE cellsS
  obtain ⟨m, hm⟩ := Tryd.laysM147.s1_3 W hsh
  refine ⟨Nat.le_refl _, Lib.tabBelow_of_tabIs ht, fun w' hb => ⟨m, ?_⟩, fun w' hb => ⟨_, _, Env.var_on hv0 hb⟩, fun w' hb => ⟨_, _, Env.var_on hv1 hb⟩⟩
  have hlt := World.block_lt_of_cell? W _ hm
  exact (hb.cell hlt).trans hm
end Go.Proofs.YtfabioccnaooeaaDoor.LaidSp
