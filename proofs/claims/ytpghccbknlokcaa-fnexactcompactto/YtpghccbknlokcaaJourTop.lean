/-
  CONTRACTS of the program's SyncTail, RoomLeft over this seat's translation.
-/
import Derived.Test.YtpghccbknlokcaaJourBook
namespace Go.Proofs.Ytpghccbknlokcaa.Jour
open Go.ChangeShapes Go.WideShapes Go.ChangeAt Go.RowKit
open Go.Proofs.Ytpghccbknlokcaa.Bytes Go.Proofs.Ytpghccbknlokcaa.LK
set_option linter.unusedVariables false
set_option linter.unusedSimpArgs false

theorem syncD_t {d : JD} (h : jok d = true) : syncD d = (d.1, d.2.1.take d.2.1.length, (d.2.1.length : Int)) := by simp [syncD, h]
theorem syncD_f {d : JD} (h : jok d = false) : syncD d = d := by simp [syncD, h]
/-- The file's Safe is set. -/
theorem Book.sync {w : World} {lo pb pf : Nat} {A1 A2 : Option Addr} {c1 c2 : Nat} {d : JD} (h : Book w lo pb pf A1 A2 c1 c2 d) (s : Int) : Book (w.setCell ⟨pf, 1, none⟩ (.int .i64 s)) lo pb pf A1 A2 c1 c2 (d.1, d.2.1, s) :=
  ⟨box_other h.hb _ _ h.ne, box_set (i := 1) h.hf _, own_same h.o1 (fun k hk => Below.heap_setCell _ _ _ _ (h.n1 k hk).2), own_same h.o2 (fun k hk => Below.heap_setCell _ _ _ _ (h.n2 k hk).2), h.ap, h.lb, h.lf⟩


end Go.Proofs.Ytpghccbknlokcaa.Jour
