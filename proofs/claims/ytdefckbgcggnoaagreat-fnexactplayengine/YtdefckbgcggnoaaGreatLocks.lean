/-
  The numbers under which this dump holds sync.Mutex's functions and types, and that it holds them: Lock and Unlock by their contracts.
-/
import Derived.Test.YtdefckbgcggnoaaGreatRows
import Derived.Conc.MuLone
import Derived.Conc.MuData
import Derived.KernelRfl
namespace Go.Proofs.YtdefckbgcggnoaaGreat.Locks
abbrev link : Go.Conc.Locks.MuLink := { lock := 71, unlock := 72, ilock := 107, iunlock := 108, lockSlow := 136, unlockSlow := 139, disable := 132, enable := 134, acquire := 135, relMerge := 137, cas32 := 133, add32 := 138, tMutex := 116, tIMutex := 114, tPMutex := 148, tPIMutex := 169, tPI32 := 171, tUP := 173, tNoCopy := 111, tU32 := 112 }
theorem lib : Go.Conc.Locks.MuLib Tryz.prog link :=
  ⟨Tryz.func71, Tryz.func72, Tryz.func107, Tryz.func108, Tryz.func132, Tryz.func134, Tryz.func135, Tryz.func137, Tryz.func133, Tryz.func138, Tryz.underlying114, Tryz.runUnderlying114, Tryz.sizeOf114, Tryz.isAgg114, Tryz.zeroValue114, Tryz.underlying116, Tryz.runUnderlying116, Tryz.sizeOf116, Tryz.isAgg116, Tryz.zeroValue116, Tryz.underlying148, Tryz.runUnderlying148, Tryz.sizeOf148, Tryz.isAgg148, Tryz.zeroValue148, Tryz.underlying169, Tryz.runUnderlying169, Tryz.sizeOf169, Tryz.isAgg169, Tryz.zeroValue169, Tryz.underlying171, Tryz.runUnderlying171, Tryz.sizeOf171, Tryz.isAgg171, Tryz.zeroValue171, Tryz.underlying173, Tryz.runUnderlying173, Tryz.sizeOf173, Tryz.isAgg173, Tryz.zeroValue173, Tryz.underlying111, Tryz.runUnderlying111, Tryz.sizeOf111, Tryz.isAgg111, Tryz.zeroValue111, Tryz.underlying21, Tryz.runUnderlying21, Tryz.sizeOf21, Tryz.isAgg21, Tryz.zeroValue21, (by kernel_rfl)⟩
end Go.Proofs.YtdefckbgcggnoaaGreat.Locks
