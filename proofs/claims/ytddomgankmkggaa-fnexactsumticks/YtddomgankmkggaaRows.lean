/-
  No cell of these rows narrows 'for every input' (looked for: loops, veiled, ifaces, maps, wideKeys, modest, calm, conditions, laid).
  DERIVED. THE GIVEN ROWS OF THIS SEAT. 6 by the template 'for every input the law returns true; each argument reads behind the call as it read before'; 0 by the template 'total and deterministic' (their statements: YtddomgankmkggaaTotals.lean).
  GIVEN WITH THE SEED: the statements are not yours to turn. If you find one false, say at which input.
  Laid BY PROGRAM, IN A SANDBOX (cutbox-rows.mjs): the forced cells as the released guide's own fill.sh prints them over the translation be69f7fa57b505c3… (all of the seat's roots in one cut). By AI agents, Wed Nov 11 2026. No macro, syntax, notation, axiom, sorry.
-/
import Derived.Test.YtddomgankmkggaaChecked
import GoSem.Claim
import GoSem.ClaimJoined
import GoSem.ClaimMapViews
import Derived.JoinedTies
import Derived.KernelRfl
namespace Go.Proofs.Ytddomgankmkggaa
/- THE CELL 'sum', in the pinned program and in every row, IS THE sha256 OF THE DUMP (.gsa) THAT YtddomgankmkggaaProg.lean LOADS. Nothing in Lean hashes anything: it is a label: what it is worth is what the hold of that sum in a sandbox is worth. -/
noncomputable def Try.pinned : Pinned := { name := "ytddomgankmkggaa", sum := "be69f7fa57b505c3ceb1ccd29dd00b08b3c7c77356c5ffd004d09b05fa91f6d3", checked := Try.checked }
namespace Rows
def none {H : Type} : Left H := { results := [], args := [] }

/-- 'laws.FnExactTickOk': WHATEVER THE INPUT: true; the input reads as it did. -/
def fnExactTickOkSpec : ChangeSpec := { name := "fnExactTickOk", fn := fun _ => fun
  | [d] => { results := [.lit (.bool true)], args := [d] }
  | _ => none }
def fnExactTickOkRow : OpenClaim := { program := "ytddomgankmkggaa", sum := "be69f7fa57b505c3ceb1ccd29dd00b08b3c7c77356c5ffd004d09b05fa91f6d3", func := "loop.example/g00734/laws.FnExactTickOk", spec := "fnExactTickOk", apart := false }
def FnExactTickOkSaid : Prop := fnExactTickOkRow.holds Try.pinned (OpenSpec.ofChange fnExactTickOkSpec)

/-- ITS FALSE NEIGHBOUR: 'it returns false'. Refute it at one input. -/
def fnExactTickOkWrong : ChangeSpec := { name := "fnExactTickOk", fn := fun _ => fun
  | [d] => { results := [.lit (.bool false)], args := [d] }
  | _ => none }
def FnExactTickOkWrongFalsely : Prop := fnExactTickOkRow.holds Try.pinned (OpenSpec.ofChange fnExactTickOkWrong)

/-- 'laws.FnExactAddTick': WHATEVER THE INPUT: true; the input reads as it did. -/
def fnExactAddTickSpec : ChangeSpec := { name := "fnExactAddTick", fn := fun _ => fun
  | [d1, d2] => { results := [.lit (.bool true)], args := [d1, d2] }
  | _ => none }
def fnExactAddTickRow : OpenClaim := { program := "ytddomgankmkggaa", sum := "be69f7fa57b505c3ceb1ccd29dd00b08b3c7c77356c5ffd004d09b05fa91f6d3", func := "loop.example/g00734/laws.FnExactAddTick", spec := "fnExactAddTick", apart := false }
def FnExactAddTickSaid : Prop := fnExactAddTickRow.holds Try.pinned (OpenSpec.ofChange fnExactAddTickSpec)

/-- ITS FALSE NEIGHBOUR: 'it returns false'. Refute it at one input. -/
def fnExactAddTickWrong : ChangeSpec := { name := "fnExactAddTick", fn := fun _ => fun
  | [d1, d2] => { results := [.lit (.bool false)], args := [d1, d2] }
  | _ => none }
def FnExactAddTickWrongFalsely : Prop := fnExactAddTickRow.holds Try.pinned (OpenSpec.ofChange fnExactAddTickWrong)

/-- 'laws.FnExactSince': WHATEVER THE INPUT: true; the input reads as it did. -/
def fnExactSinceSpec : ChangeSpec := { name := "fnExactSince", fn := fun _ => fun
  | [d1, d2] => { results := [.lit (.bool true)], args := [d1, d2] }
  | _ => none }
def fnExactSinceRow : OpenClaim := { program := "ytddomgankmkggaa", sum := "be69f7fa57b505c3ceb1ccd29dd00b08b3c7c77356c5ffd004d09b05fa91f6d3", func := "loop.example/g00734/laws.FnExactSince", spec := "fnExactSince", apart := false }
def FnExactSinceSaid : Prop := fnExactSinceRow.holds Try.pinned (OpenSpec.ofChange fnExactSinceSpec)

/-- ITS FALSE NEIGHBOUR: 'it returns false'. Refute it at one input. -/
def fnExactSinceWrong : ChangeSpec := { name := "fnExactSince", fn := fun _ => fun
  | [d1, d2] => { results := [.lit (.bool false)], args := [d1, d2] }
  | _ => none }
def FnExactSinceWrongFalsely : Prop := fnExactSinceRow.holds Try.pinned (OpenSpec.ofChange fnExactSinceWrong)

/-- 'laws.FnExactDueAt': WHATEVER THE INPUT: true; the input reads as it did. -/
def fnExactDueAtSpec : ChangeSpec := { name := "fnExactDueAt", fn := fun _ => fun
  | [d1, d2, d3] => { results := [.lit (.bool true)], args := [d1, d2, d3] }
  | _ => none }
def fnExactDueAtRow : OpenClaim := { program := "ytddomgankmkggaa", sum := "be69f7fa57b505c3ceb1ccd29dd00b08b3c7c77356c5ffd004d09b05fa91f6d3", func := "loop.example/g00734/laws.FnExactDueAt", spec := "fnExactDueAt", apart := false }
def FnExactDueAtSaid : Prop := fnExactDueAtRow.holds Try.pinned (OpenSpec.ofChange fnExactDueAtSpec)

/-- ITS FALSE NEIGHBOUR: 'it returns false'. Refute it at one input. -/
def fnExactDueAtWrong : ChangeSpec := { name := "fnExactDueAt", fn := fun _ => fun
  | [d1, d2, d3] => { results := [.lit (.bool false)], args := [d1, d2, d3] }
  | _ => none }
def FnExactDueAtWrongFalsely : Prop := fnExactDueAtRow.holds Try.pinned (OpenSpec.ofChange fnExactDueAtWrong)

/-- 'laws.FnExactSoonestOf': WHATEVER THE INPUT: true; the input reads as it did. -/
def fnExactSoonestOfSpec : ChangeSpec := { name := "fnExactSoonestOf", fn := fun _ => fun
  | [d] => { results := [.lit (.bool true)], args := [d] }
  | _ => none }
def fnExactSoonestOfRow : OpenClaim := { program := "ytddomgankmkggaa", sum := "be69f7fa57b505c3ceb1ccd29dd00b08b3c7c77356c5ffd004d09b05fa91f6d3", func := "loop.example/g00734/laws.FnExactSoonestOf", spec := "fnExactSoonestOf", apart := false }
def FnExactSoonestOfSaid : Prop := fnExactSoonestOfRow.holds Try.pinned (OpenSpec.ofChange fnExactSoonestOfSpec)

/-- ITS FALSE NEIGHBOUR: 'it returns false'. Refute it at one input. -/
def fnExactSoonestOfWrong : ChangeSpec := { name := "fnExactSoonestOf", fn := fun _ => fun
  | [d] => { results := [.lit (.bool false)], args := [d] }
  | _ => none }
def FnExactSoonestOfWrongFalsely : Prop := fnExactSoonestOfRow.holds Try.pinned (OpenSpec.ofChange fnExactSoonestOfWrong)

/-- 'laws.FnExactSumTicks': WHATEVER THE INPUT: true; the input reads as it did. -/
def fnExactSumTicksSpec : ChangeSpec := { name := "fnExactSumTicks", fn := fun _ => fun
  | [d] => { results := [.lit (.bool true)], args := [d] }
  | _ => none }
def fnExactSumTicksRow : OpenClaim := { program := "ytddomgankmkggaa", sum := "be69f7fa57b505c3ceb1ccd29dd00b08b3c7c77356c5ffd004d09b05fa91f6d3", func := "loop.example/g00734/laws.FnExactSumTicks", spec := "fnExactSumTicks", apart := false }
def FnExactSumTicksSaid : Prop := fnExactSumTicksRow.holds Try.pinned (OpenSpec.ofChange fnExactSumTicksSpec)

/-- ITS FALSE NEIGHBOUR: 'it returns false'. Refute it at one input. -/
def fnExactSumTicksWrong : ChangeSpec := { name := "fnExactSumTicks", fn := fun _ => fun
  | [d] => { results := [.lit (.bool false)], args := [d] }
  | _ => none }
def FnExactSumTicksWrongFalsely : Prop := fnExactSumTicksRow.holds Try.pinned (OpenSpec.ofChange fnExactSumTicksWrong)

/- THE SECOND FORM. 'bulk': how many values and letters a reading holds, each counted each time it is reached (what is shared counts as often as it is met; a slice's spare places count too). A statement '..UptoSaid' is the law's where the arguments, and the package variables that the reading takes, are together of bulk at most 1048576: NARROWER than '..Said'. Prove '..Said' where nothing that the law and all that it calls make is longer than what came in: it says more and counts as full. Else prove '..UptoSaid'. A law counts once. -/
mutual
def uptoBulk {H : Type} : DataW H → Nat
  | .lit (.string bytes) => bytes.length + 1
  | .lit _ => 1
  | .nil => 1
  | .ptr d => uptoBulk d + 1
  | .slice elems spare => uptoBulkAll elems + uptoBulkAll spare + 1
  | .agg parts => uptoBulkAll parts + 1
  | .iface _ d => uptoBulk d + 1
  | .map entries => uptoBulkEntries entries + 1
  | .held _ => 1
def uptoBulkAll {H : Type} : List (DataW H) → Nat
  | [] => 0
  | d :: r => uptoBulk d + uptoBulkAll r
def uptoBulkEntries {H : Type} : List (Lit × DataW H) → Nat
  | [] => 0
  | x :: r => uptoBulkEntry x + uptoBulkEntries r
def uptoBulkEntry {H : Type} : Lit × DataW H → Nat
  | (.string bytes, d) => bytes.length + uptoBulk d + 1
  | (_, d) => uptoBulk d + 1
 end
def uptoSmall : (H : Type) → List (DataW H) → Bool := fun _ ds => decide (uptoBulkAll ds ≤ 1048576)
def OpenSpec.upto (s : _root_.Go.ChangeSpec) : _root_.Go.OpenSpec := { _root_.Go.OpenSpec.ofChange s with cond := some uptoSmall }

/-- 'laws.FnExactTickOk', WHERE WHAT IT READS IS OF BULK AT MOST 1048576: true; the input reads as it did. -/
def fnExactTickOkUptoRow : OpenClaim := { program := "ytddomgankmkggaa", sum := "be69f7fa57b505c3ceb1ccd29dd00b08b3c7c77356c5ffd004d09b05fa91f6d3", func := "loop.example/g00734/laws.FnExactTickOk", spec := "fnExactTickOk", apart := false, narrowed := true }
def FnExactTickOkUptoSaid : Prop := fnExactTickOkUptoRow.holds Try.pinned (OpenSpec.upto fnExactTickOkSpec)

/-- 'laws.FnExactAddTick', WHERE WHAT IT READS IS OF BULK AT MOST 1048576: true; the input reads as it did. -/
def fnExactAddTickUptoRow : OpenClaim := { program := "ytddomgankmkggaa", sum := "be69f7fa57b505c3ceb1ccd29dd00b08b3c7c77356c5ffd004d09b05fa91f6d3", func := "loop.example/g00734/laws.FnExactAddTick", spec := "fnExactAddTick", apart := false, narrowed := true }
def FnExactAddTickUptoSaid : Prop := fnExactAddTickUptoRow.holds Try.pinned (OpenSpec.upto fnExactAddTickSpec)

/-- 'laws.FnExactSince', WHERE WHAT IT READS IS OF BULK AT MOST 1048576: true; the input reads as it did. -/
def fnExactSinceUptoRow : OpenClaim := { program := "ytddomgankmkggaa", sum := "be69f7fa57b505c3ceb1ccd29dd00b08b3c7c77356c5ffd004d09b05fa91f6d3", func := "loop.example/g00734/laws.FnExactSince", spec := "fnExactSince", apart := false, narrowed := true }
def FnExactSinceUptoSaid : Prop := fnExactSinceUptoRow.holds Try.pinned (OpenSpec.upto fnExactSinceSpec)

/-- 'laws.FnExactDueAt', WHERE WHAT IT READS IS OF BULK AT MOST 1048576: true; the input reads as it did. -/
def fnExactDueAtUptoRow : OpenClaim := { program := "ytddomgankmkggaa", sum := "be69f7fa57b505c3ceb1ccd29dd00b08b3c7c77356c5ffd004d09b05fa91f6d3", func := "loop.example/g00734/laws.FnExactDueAt", spec := "fnExactDueAt", apart := false, narrowed := true }
def FnExactDueAtUptoSaid : Prop := fnExactDueAtUptoRow.holds Try.pinned (OpenSpec.upto fnExactDueAtSpec)

/-- 'laws.FnExactSoonestOf', WHERE WHAT IT READS IS OF BULK AT MOST 1048576: true; the input reads as it did. -/
def fnExactSoonestOfUptoRow : OpenClaim := { program := "ytddomgankmkggaa", sum := "be69f7fa57b505c3ceb1ccd29dd00b08b3c7c77356c5ffd004d09b05fa91f6d3", func := "loop.example/g00734/laws.FnExactSoonestOf", spec := "fnExactSoonestOf", apart := false, narrowed := true }
def FnExactSoonestOfUptoSaid : Prop := fnExactSoonestOfUptoRow.holds Try.pinned (OpenSpec.upto fnExactSoonestOfSpec)

/-- 'laws.FnExactSumTicks', WHERE WHAT IT READS IS OF BULK AT MOST 1048576: true; the input reads as it did. -/
def fnExactSumTicksUptoRow : OpenClaim := { program := "ytddomgankmkggaa", sum := "be69f7fa57b505c3ceb1ccd29dd00b08b3c7c77356c5ffd004d09b05fa91f6d3", func := "loop.example/g00734/laws.FnExactSumTicks", spec := "fnExactSumTicks", apart := false, narrowed := true }
def FnExactSumTicksUptoSaid : Prop := fnExactSumTicksUptoRow.holds Try.pinned (OpenSpec.upto fnExactSumTicksSpec)

end Rows
end Go.Proofs.Ytddomgankmkggaa
