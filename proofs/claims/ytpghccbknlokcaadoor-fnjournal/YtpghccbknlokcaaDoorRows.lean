/-
  NARROWER THAN 'FOR EVERY INPUT', by the rows' own cells (each row's printed sentence says how): FnJournal: ifaces, laid · FnExactReadJournal: ifaces, laid.
  DERIVED. THE GIVEN ROWS OF THIS SEAT. 2 by the template 'for every input the law returns true; each argument reads behind the call as it read before'; 0 by the template 'total and deterministic' (their statements: YtpghccbknlokcaaDoorTotals.lean).
  GIVEN WITH THE SEED: the statements are not yours to turn. If you find one false, say at which input.
  Laid BY PROGRAM, IN A SANDBOX (cutbox-rows.mjs): the forced cells as the released guide's own fill.sh prints them over the translation 9dafc07800695416… (all of the seat's roots in one cut). By AI agents, Wed Nov 11 2026. No macro, syntax, notation, axiom, sorry.
-/
import Derived.Test.YtpghccbknlokcaaDoorChecked
import GoSem.Claim
import GoSem.ClaimJoined
import GoSem.ClaimMapViews
import Derived.JoinedTies
import Derived.KernelRfl
namespace Go.Proofs.YtpghccbknlokcaaDoor
/- THE CELL 'sum', in the pinned program and in every row, IS THE sha256 OF THE DUMP (.gsa) THAT YtpghccbknlokcaaDoorProg.lean LOADS. Nothing in Lean hashes anything: it is a label: what it is worth is what the hold of that sum in a sandbox is worth. -/
noncomputable def Tryd.pinned : Pinned := { name := "ytpghccbknlokcaadoor", sum := "9dafc0780069541677e85f7dc6443aa2556f9e34485f2f54d8300c6daa9f2c37", checked := Tryd.checked }
namespace Rows
def none {H : Type} : Left H := { results := [], args := [] }

/- WHAT THE LISTED PACKAGE-LEVEL VARIABLES READ AS WHEN THE CALL BEGINS. Each datum BY PROGRAM (the guide's laid-datum.mjs) off the statement by which the dump's own 'gosem.cut.vars' lays the variable. In a bare row this is a premise. The card (YtpghccbknlokcaaDoorCards.lean) ties it to the program's text. -/
def laid_loop_example_g00734_impl_errTorn {H : Type} : DataW H := .iface "*errors.errorString" (.ptr (.agg [.lit (.string [116, 104, 101, 32, 98, 121, 116, 101, 115, 32, 101, 110, 100, 32, 119, 105, 116, 104, 105, 110, 32, 119, 104, 97, 116, 32, 105, 115, 32, 114, 101, 97, 100])]))
def laid_loop_example_g00734_impl_errBent {H : Type} : DataW H := .iface "*errors.errorString" (.ptr (.agg [.lit (.string [110, 111, 32, 114, 101, 99, 111, 114, 100, 32, 119, 97, 115, 32, 119, 114, 105, 116, 116, 101, 110, 32, 115, 111])]))
def laid_loop_example_g00734_impl_errOutside {H : Type} : DataW H := .iface "*errors.errorString" (.ptr (.agg [.lit (.string [116, 104, 101, 32, 112, 108, 97, 99, 101, 32, 105, 115, 32, 110, 111, 116, 32, 105, 110, 32, 116, 104, 101, 32, 98, 121, 116, 101, 115])]))

/-- 'laws.FnJournal': WHATEVER THE INPUT: true; the input reads as it did. -/
def fnJournalSpec : ChangeSpec := { name := "fnJournal", vars := ["loop.example/g00734/impl.errOutside", "loop.example/g00734/impl.errBent", "loop.example/g00734/impl.errTorn"], fn := fun _ => fun
  | [d, g1, g2, g3] => { results := [.lit (.bool true)], args := [d], vars := [g1, g2, g3] }
  | _ => none }
def fnJournalRow : OpenClaim := { program := "ytpghccbknlokcaadoor", sum := "9dafc0780069541677e85f7dc6443aa2556f9e34485f2f54d8300c6daa9f2c37", func := "loop.example/g00734/laws.FnJournal", spec := "fnJournal", inPlace := ["internal/reflectlite.TypeOf"], unfollowed := true, recurses := true, named := ["loop.example/g00734/impl.errOutside", "loop.example/g00734/impl.errBent", "loop.example/g00734/impl.errTorn"], ifaces := true, apart := false, laid := [("loop.example/g00734/impl.errTorn", laid_loop_example_g00734_impl_errTorn), ("loop.example/g00734/impl.errBent", laid_loop_example_g00734_impl_errBent), ("loop.example/g00734/impl.errOutside", laid_loop_example_g00734_impl_errOutside)] }
def FnJournalSaid : Prop := fnJournalRow.holds Tryd.pinned (OpenSpec.ofChange fnJournalSpec)

/-- ITS FALSE NEIGHBOUR: 'it returns false'. Refute it at one input. -/
def fnJournalWrong : ChangeSpec := { name := "fnJournal", vars := ["loop.example/g00734/impl.errOutside", "loop.example/g00734/impl.errBent", "loop.example/g00734/impl.errTorn"], fn := fun _ => fun
  | [d, g1, g2, g3] => { results := [.lit (.bool false)], args := [d], vars := [g1, g2, g3] }
  | _ => none }
def FnJournalWrongFalsely : Prop := fnJournalRow.holds Tryd.pinned (OpenSpec.ofChange fnJournalWrong)

/-- 'laws.FnExactReadJournal': WHATEVER THE INPUT: true; the input reads as it did. -/
def fnExactReadJournalSpec : ChangeSpec := { name := "fnExactReadJournal", vars := ["loop.example/g00734/impl.errOutside", "loop.example/g00734/impl.errBent", "loop.example/g00734/impl.errTorn"], fn := fun _ => fun
  | [d, g1, g2, g3] => { results := [.lit (.bool true)], args := [d], vars := [g1, g2, g3] }
  | _ => none }
def fnExactReadJournalRow : OpenClaim := { program := "ytpghccbknlokcaadoor", sum := "9dafc0780069541677e85f7dc6443aa2556f9e34485f2f54d8300c6daa9f2c37", func := "loop.example/g00734/laws.FnExactReadJournal", spec := "fnExactReadJournal", inPlace := ["internal/reflectlite.TypeOf"], unfollowed := true, recurses := true, named := ["loop.example/g00734/impl.errOutside", "loop.example/g00734/impl.errBent", "loop.example/g00734/impl.errTorn"], ifaces := true, apart := false, laid := [("loop.example/g00734/impl.errTorn", laid_loop_example_g00734_impl_errTorn), ("loop.example/g00734/impl.errBent", laid_loop_example_g00734_impl_errBent), ("loop.example/g00734/impl.errOutside", laid_loop_example_g00734_impl_errOutside)] }
def FnExactReadJournalSaid : Prop := fnExactReadJournalRow.holds Tryd.pinned (OpenSpec.ofChange fnExactReadJournalSpec)

/-- ITS FALSE NEIGHBOUR: 'it returns false'. Refute it at one input. -/
def fnExactReadJournalWrong : ChangeSpec := { name := "fnExactReadJournal", vars := ["loop.example/g00734/impl.errOutside", "loop.example/g00734/impl.errBent", "loop.example/g00734/impl.errTorn"], fn := fun _ => fun
  | [d, g1, g2, g3] => { results := [.lit (.bool false)], args := [d], vars := [g1, g2, g3] }
  | _ => none }
def FnExactReadJournalWrongFalsely : Prop := fnExactReadJournalRow.holds Tryd.pinned (OpenSpec.ofChange fnExactReadJournalWrong)

/- THE SECOND FORM. 'bulk': how many values and letters a reading holds, each counted each time it is reached (what is shared counts as often as it is met; a slice's spare places count too). A statement '..UptoSaid' is the law's where the arguments, and the package variables that the reading takes, are together of bulk at most 1048576: NARROWER than '..Said'. Prove '..Said' where nothing that the law and all that it calls make is longer than what came in: it says more and counts as full. Else prove '..UptoSaid'. A law counts once. -/
mutual
def uptoBulk {H : Type} : DataW H → Nat
  | .lit (.string bytes) => bytes.length + 1
  | .lit _ => 1
  | .nil => 1
  | .ptr d => uptoBulk d + 1
  | .slice elems spare => uptoBulkAll elems + uptoBulkAll spare + 1
  | .agg parts => uptoBulkAll parts + 1
  | .iface _ d => uptoBulk d + 1
  | .map entries => uptoBulkEntries entries + 1
  | .held _ => 1
def uptoBulkAll {H : Type} : List (DataW H) → Nat
  | [] => 0
  | d :: r => uptoBulk d + uptoBulkAll r
def uptoBulkEntries {H : Type} : List (Lit × DataW H) → Nat
  | [] => 0
  | x :: r => uptoBulkEntry x + uptoBulkEntries r
def uptoBulkEntry {H : Type} : Lit × DataW H → Nat
  | (.string bytes, d) => bytes.length + uptoBulk d + 1
  | (_, d) => uptoBulk d + 1
 end
def uptoSmall : (H : Type) → List (DataW H) → Bool := fun _ ds => decide (uptoBulkAll ds ≤ 1048576)
def OpenSpec.upto (s : _root_.Go.ChangeSpec) : _root_.Go.OpenSpec := { _root_.Go.OpenSpec.ofChange s with cond := some uptoSmall }

/-- 'laws.FnJournal', WHERE WHAT IT READS IS OF BULK AT MOST 1048576: true; the input reads as it did. -/
def fnJournalUptoRow : OpenClaim := { program := "ytpghccbknlokcaadoor", sum := "9dafc0780069541677e85f7dc6443aa2556f9e34485f2f54d8300c6daa9f2c37", func := "loop.example/g00734/laws.FnJournal", spec := "fnJournal", inPlace := ["internal/reflectlite.TypeOf"], unfollowed := true, recurses := true, named := ["loop.example/g00734/impl.errOutside", "loop.example/g00734/impl.errBent", "loop.example/g00734/impl.errTorn"], ifaces := true, apart := false, laid := [("loop.example/g00734/impl.errTorn", laid_loop_example_g00734_impl_errTorn), ("loop.example/g00734/impl.errBent", laid_loop_example_g00734_impl_errBent), ("loop.example/g00734/impl.errOutside", laid_loop_example_g00734_impl_errOutside)], narrowed := true }
def FnJournalUptoSaid : Prop := fnJournalUptoRow.holds Tryd.pinned (OpenSpec.upto fnJournalSpec)

/-- 'laws.FnExactReadJournal', WHERE WHAT IT READS IS OF BULK AT MOST 1048576: true; the input reads as it did. -/
def fnExactReadJournalUptoRow : OpenClaim := { program := "ytpghccbknlokcaadoor", sum := "9dafc0780069541677e85f7dc6443aa2556f9e34485f2f54d8300c6daa9f2c37", func := "loop.example/g00734/laws.FnExactReadJournal", spec := "fnExactReadJournal", inPlace := ["internal/reflectlite.TypeOf"], unfollowed := true, recurses := true, named := ["loop.example/g00734/impl.errOutside", "loop.example/g00734/impl.errBent", "loop.example/g00734/impl.errTorn"], ifaces := true, apart := false, laid := [("loop.example/g00734/impl.errTorn", laid_loop_example_g00734_impl_errTorn), ("loop.example/g00734/impl.errBent", laid_loop_example_g00734_impl_errBent), ("loop.example/g00734/impl.errOutside", laid_loop_example_g00734_impl_errOutside)], narrowed := true }
def FnExactReadJournalUptoSaid : Prop := fnExactReadJournalUptoRow.holds Tryd.pinned (OpenSpec.upto fnExactReadJournalSpec)

end Rows
end Go.Proofs.YtpghccbknlokcaaDoor
