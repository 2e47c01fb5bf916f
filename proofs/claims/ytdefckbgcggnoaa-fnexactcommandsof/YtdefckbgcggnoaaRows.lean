/-
  No cell of these rows narrows 'for every input' (looked for: loops, veiled, ifaces, maps, wideKeys, modest, calm, conditions, laid).
  DERIVED. THE GIVEN ROWS OF THIS SEAT. 9 by the template 'for every input the law returns true; each argument reads behind the call as it read before'; 0 by the template 'total and deterministic' (their statements: YtdefckbgcggnoaaTotals.lean).
  GIVEN WITH THE SEED: the statements are not yours to turn. If you find one false, say at which input.
  Laid BY PROGRAM, IN A SANDBOX (cutbox-rows.mjs): the forced cells as the released guide's own fill.sh prints them over the translation 46c94ba10ab4ab92… (all of the seat's roots in one cut). By AI agents, Wed Nov 11 2026. No macro, syntax, notation, axiom, sorry.
-/
import Derived.Test.YtdefckbgcggnoaaChecked
import GoSem.Claim
import GoSem.ClaimJoined
import GoSem.ClaimMapViews
import Derived.JoinedTies
import Derived.KernelRfl
namespace Go.Proofs.Ytdefckbgcggnoaa
/- THE CELL 'sum', in the pinned program and in every row, IS THE sha256 OF THE DUMP (.gsa) THAT YtdefckbgcggnoaaProg.lean LOADS. Nothing in Lean hashes anything: it is a label: what it is worth is what the hold of that sum in a sandbox is worth. -/
noncomputable def Try.pinned : Pinned := { name := "ytdefckbgcggnoaa", sum := "46c94ba10ab4ab923cfeabeeab5d8fa85d6a7e3f798c167f7ef629ab9993bf11", checked := Try.checked }
namespace Rows
def none {H : Type} : Left H := { results := [], args := [] }

/-- 'laws.FnExactMostPods': WHATEVER THE INPUT: true; the input reads as it did. -/
def fnExactMostPodsSpec : ChangeSpec := { name := "fnExactMostPods", fn := fun _ => fun
  | [d] => { results := [.lit (.bool true)], args := [d] }
  | _ => none }
def fnExactMostPodsRow : OpenClaim := { program := "ytdefckbgcggnoaa", sum := "46c94ba10ab4ab923cfeabeeab5d8fa85d6a7e3f798c167f7ef629ab9993bf11", func := "loop.example/g00734/laws.FnExactMostPods", spec := "fnExactMostPods", unfollowed := true, recurses := true, leaving := true, apart := false }
def FnExactMostPodsSaid : Prop := fnExactMostPodsRow.holds Try.pinned (OpenSpec.ofChange fnExactMostPodsSpec)

/-- ITS FALSE NEIGHBOUR: 'it returns false'. Refute it at one input. -/
def fnExactMostPodsWrong : ChangeSpec := { name := "fnExactMostPods", fn := fun _ => fun
  | [d] => { results := [.lit (.bool false)], args := [d] }
  | _ => none }
def FnExactMostPodsWrongFalsely : Prop := fnExactMostPodsRow.holds Try.pinned (OpenSpec.ofChange fnExactMostPodsWrong)

/-- 'laws.FnExactCeilingKept': WHATEVER THE INPUT: true; the input reads as it did. -/
def fnExactCeilingKeptSpec : ChangeSpec := { name := "fnExactCeilingKept", fn := fun _ => fun
  | [d1, d2] => { results := [.lit (.bool true)], args := [d1, d2] }
  | _ => none }
def fnExactCeilingKeptRow : OpenClaim := { program := "ytdefckbgcggnoaa", sum := "46c94ba10ab4ab923cfeabeeab5d8fa85d6a7e3f798c167f7ef629ab9993bf11", func := "loop.example/g00734/laws.FnExactCeilingKept", spec := "fnExactCeilingKept", inPlace := ["(*sync.WaitGroup).Add", "internal/race.ReleaseMerge", "internal/race.Disable", "internal/race.Enable", "internal/synctest.IsInBubble", "internal/synctest.Associate[sync.WaitGroup]", "sync.fatal", "sync/atomic.OrUint64", "sync/atomic.AddUint64", "internal/race.Read", "sync/atomic.LoadUint64", "sync/atomic.StoreUint64", "internal/synctest.Disassociate[sync.WaitGroup]", "sync.runtime_Semrelease", "(*sync.WaitGroup).Done", "(*sync.WaitGroup).Wait", "internal/race.Acquire", "internal/synctest.IsAssociated[sync.WaitGroup]", "sync/atomic.CompareAndSwapUint64", "internal/race.Write", "sync.runtime_SemacquireWaitGroup"], unfollowed := true, recurses := true, leaving := true, apart := false }
def FnExactCeilingKeptSaid : Prop := fnExactCeilingKeptRow.holds Try.pinned (OpenSpec.ofChange fnExactCeilingKeptSpec)

/-- ITS FALSE NEIGHBOUR: 'it returns false'. Refute it at one input. -/
def fnExactCeilingKeptWrong : ChangeSpec := { name := "fnExactCeilingKept", fn := fun _ => fun
  | [d1, d2] => { results := [.lit (.bool false)], args := [d1, d2] }
  | _ => none }
def FnExactCeilingKeptWrongFalsely : Prop := fnExactCeilingKeptRow.holds Try.pinned (OpenSpec.ofChange fnExactCeilingKeptWrong)

/-- 'laws.FnExactBacksBetween': WHATEVER THE INPUT: true; the input reads as it did. -/
def fnExactBacksBetweenSpec : ChangeSpec := { name := "fnExactBacksBetween", fn := fun _ => fun
  | [d1, d2, d3] => { results := [.lit (.bool true)], args := [d1, d2, d3] }
  | _ => none }
def fnExactBacksBetweenRow : OpenClaim := { program := "ytdefckbgcggnoaa", sum := "46c94ba10ab4ab923cfeabeeab5d8fa85d6a7e3f798c167f7ef629ab9993bf11", func := "loop.example/g00734/laws.FnExactBacksBetween", spec := "fnExactBacksBetween", apart := false }
def FnExactBacksBetweenSaid : Prop := fnExactBacksBetweenRow.holds Try.pinned (OpenSpec.ofChange fnExactBacksBetweenSpec)

/-- ITS FALSE NEIGHBOUR: 'it returns false'. Refute it at one input. -/
def fnExactBacksBetweenWrong : ChangeSpec := { name := "fnExactBacksBetween", fn := fun _ => fun
  | [d1, d2, d3] => { results := [.lit (.bool false)], args := [d1, d2, d3] }
  | _ => none }
def FnExactBacksBetweenWrongFalsely : Prop := fnExactBacksBetweenRow.holds Try.pinned (OpenSpec.ofChange fnExactBacksBetweenWrong)

/-- 'laws.FnExactOneBack': WHATEVER THE INPUT: true; the input reads as it did. -/
def fnExactOneBackSpec : ChangeSpec := { name := "fnExactOneBack", fn := fun _ => fun
  | [d] => { results := [.lit (.bool true)], args := [d] }
  | _ => none }
def fnExactOneBackRow : OpenClaim := { program := "ytdefckbgcggnoaa", sum := "46c94ba10ab4ab923cfeabeeab5d8fa85d6a7e3f798c167f7ef629ab9993bf11", func := "loop.example/g00734/laws.FnExactOneBack", spec := "fnExactOneBack", inPlace := ["(*sync.WaitGroup).Add", "internal/race.ReleaseMerge", "internal/race.Disable", "internal/race.Enable", "internal/synctest.IsInBubble", "internal/synctest.Associate[sync.WaitGroup]", "sync.fatal", "sync/atomic.OrUint64", "sync/atomic.AddUint64", "internal/race.Read", "sync/atomic.LoadUint64", "sync/atomic.StoreUint64", "internal/synctest.Disassociate[sync.WaitGroup]", "sync.runtime_Semrelease", "(*sync.WaitGroup).Done", "(*sync.WaitGroup).Wait", "internal/race.Acquire", "internal/synctest.IsAssociated[sync.WaitGroup]", "sync/atomic.CompareAndSwapUint64", "internal/race.Write", "sync.runtime_SemacquireWaitGroup"], unfollowed := true, recurses := true, leaving := true, apart := false }
def FnExactOneBackSaid : Prop := fnExactOneBackRow.holds Try.pinned (OpenSpec.ofChange fnExactOneBackSpec)

/-- ITS FALSE NEIGHBOUR: 'it returns false'. Refute it at one input. -/
def fnExactOneBackWrong : ChangeSpec := { name := "fnExactOneBack", fn := fun _ => fun
  | [d] => { results := [.lit (.bool false)], args := [d] }
  | _ => none }
def FnExactOneBackWrongFalsely : Prop := fnExactOneBackRow.holds Try.pinned (OpenSpec.ofChange fnExactOneBackWrong)

/-- 'laws.FnExactGoodOnly': WHATEVER THE INPUT: true; the input reads as it did. -/
def fnExactGoodOnlySpec : ChangeSpec := { name := "fnExactGoodOnly", fn := fun _ => fun
  | [d] => { results := [.lit (.bool true)], args := [d] }
  | _ => none }
def fnExactGoodOnlyRow : OpenClaim := { program := "ytdefckbgcggnoaa", sum := "46c94ba10ab4ab923cfeabeeab5d8fa85d6a7e3f798c167f7ef629ab9993bf11", func := "loop.example/g00734/laws.FnExactGoodOnly", spec := "fnExactGoodOnly", inPlace := ["(*sync.WaitGroup).Add", "internal/race.ReleaseMerge", "internal/race.Disable", "internal/race.Enable", "internal/synctest.IsInBubble", "internal/synctest.Associate[sync.WaitGroup]", "sync.fatal", "sync/atomic.OrUint64", "sync/atomic.AddUint64", "internal/race.Read", "sync/atomic.LoadUint64", "sync/atomic.StoreUint64", "internal/synctest.Disassociate[sync.WaitGroup]", "sync.runtime_Semrelease", "(*sync.WaitGroup).Done", "(*sync.WaitGroup).Wait", "internal/race.Acquire", "internal/synctest.IsAssociated[sync.WaitGroup]", "sync/atomic.CompareAndSwapUint64", "internal/race.Write", "sync.runtime_SemacquireWaitGroup"], unfollowed := true, recurses := true, leaving := true, apart := false }
def FnExactGoodOnlySaid : Prop := fnExactGoodOnlyRow.holds Try.pinned (OpenSpec.ofChange fnExactGoodOnlySpec)

/-- ITS FALSE NEIGHBOUR: 'it returns false'. Refute it at one input. -/
def fnExactGoodOnlyWrong : ChangeSpec := { name := "fnExactGoodOnly", fn := fun _ => fun
  | [d] => { results := [.lit (.bool false)], args := [d] }
  | _ => none }
def FnExactGoodOnlyWrongFalsely : Prop := fnExactGoodOnlyRow.holds Try.pinned (OpenSpec.ofChange fnExactGoodOnlyWrong)

/-- 'laws.FnExactCreatedOnce': WHATEVER THE INPUT: true; the input reads as it did. -/
def fnExactCreatedOnceSpec : ChangeSpec := { name := "fnExactCreatedOnce", fn := fun _ => fun
  | [d] => { results := [.lit (.bool true)], args := [d] }
  | _ => none }
def fnExactCreatedOnceRow : OpenClaim := { program := "ytdefckbgcggnoaa", sum := "46c94ba10ab4ab923cfeabeeab5d8fa85d6a7e3f798c167f7ef629ab9993bf11", func := "loop.example/g00734/laws.FnExactCreatedOnce", spec := "fnExactCreatedOnce", inPlace := ["(*sync.WaitGroup).Add", "internal/race.ReleaseMerge", "internal/race.Disable", "internal/race.Enable", "internal/synctest.IsInBubble", "internal/synctest.Associate[sync.WaitGroup]", "sync.fatal", "sync/atomic.OrUint64", "sync/atomic.AddUint64", "internal/race.Read", "sync/atomic.LoadUint64", "sync/atomic.StoreUint64", "internal/synctest.Disassociate[sync.WaitGroup]", "sync.runtime_Semrelease", "(*sync.WaitGroup).Done", "(*sync.WaitGroup).Wait", "internal/race.Acquire", "internal/synctest.IsAssociated[sync.WaitGroup]", "sync/atomic.CompareAndSwapUint64", "internal/race.Write", "sync.runtime_SemacquireWaitGroup"], unfollowed := true, recurses := true, leaving := true, apart := false }
def FnExactCreatedOnceSaid : Prop := fnExactCreatedOnceRow.holds Try.pinned (OpenSpec.ofChange fnExactCreatedOnceSpec)

/-- ITS FALSE NEIGHBOUR: 'it returns false'. Refute it at one input. -/
def fnExactCreatedOnceWrong : ChangeSpec := { name := "fnExactCreatedOnce", fn := fun _ => fun
  | [d] => { results := [.lit (.bool false)], args := [d] }
  | _ => none }
def FnExactCreatedOnceWrongFalsely : Prop := fnExactCreatedOnceRow.holds Try.pinned (OpenSpec.ofChange fnExactCreatedOnceWrong)

/-- 'laws.FnExactQuietAfter': WHATEVER THE INPUT: true; the input reads as it did. -/
def fnExactQuietAfterSpec : ChangeSpec := { name := "fnExactQuietAfter", fn := fun _ => fun
  | [d] => { results := [.lit (.bool true)], args := [d] }
  | _ => none }
def fnExactQuietAfterRow : OpenClaim := { program := "ytdefckbgcggnoaa", sum := "46c94ba10ab4ab923cfeabeeab5d8fa85d6a7e3f798c167f7ef629ab9993bf11", func := "loop.example/g00734/laws.FnExactQuietAfter", spec := "fnExactQuietAfter", inPlace := ["(*sync.WaitGroup).Add", "internal/race.ReleaseMerge", "internal/race.Disable", "internal/race.Enable", "internal/synctest.IsInBubble", "internal/synctest.Associate[sync.WaitGroup]", "sync.fatal", "sync/atomic.OrUint64", "sync/atomic.AddUint64", "internal/race.Read", "sync/atomic.LoadUint64", "sync/atomic.StoreUint64", "internal/synctest.Disassociate[sync.WaitGroup]", "sync.runtime_Semrelease", "(*sync.WaitGroup).Done", "(*sync.WaitGroup).Wait", "internal/race.Acquire", "internal/synctest.IsAssociated[sync.WaitGroup]", "sync/atomic.CompareAndSwapUint64", "internal/race.Write", "sync.runtime_SemacquireWaitGroup"], unfollowed := true, recurses := true, leaving := true, apart := false }
def FnExactQuietAfterSaid : Prop := fnExactQuietAfterRow.holds Try.pinned (OpenSpec.ofChange fnExactQuietAfterSpec)

/-- ITS FALSE NEIGHBOUR: 'it returns false'. Refute it at one input. -/
def fnExactQuietAfterWrong : ChangeSpec := { name := "fnExactQuietAfter", fn := fun _ => fun
  | [d] => { results := [.lit (.bool false)], args := [d] }
  | _ => none }
def FnExactQuietAfterWrongFalsely : Prop := fnExactQuietAfterRow.holds Try.pinned (OpenSpec.ofChange fnExactQuietAfterWrong)

/-- 'laws.FnExactCommandsOf': WHATEVER THE INPUT: true; the input reads as it did. -/
def fnExactCommandsOfSpec : ChangeSpec := { name := "fnExactCommandsOf", fn := fun _ => fun
  | [d] => { results := [.lit (.bool true)], args := [d] }
  | _ => none }
def fnExactCommandsOfRow : OpenClaim := { program := "ytdefckbgcggnoaa", sum := "46c94ba10ab4ab923cfeabeeab5d8fa85d6a7e3f798c167f7ef629ab9993bf11", func := "loop.example/g00734/laws.FnExactCommandsOf", spec := "fnExactCommandsOf", apart := false }
def FnExactCommandsOfSaid : Prop := fnExactCommandsOfRow.holds Try.pinned (OpenSpec.ofChange fnExactCommandsOfSpec)

/-- ITS FALSE NEIGHBOUR: 'it returns false'. Refute it at one input. -/
def fnExactCommandsOfWrong : ChangeSpec := { name := "fnExactCommandsOf", fn := fun _ => fun
  | [d] => { results := [.lit (.bool false)], args := [d] }
  | _ => none }
def FnExactCommandsOfWrongFalsely : Prop := fnExactCommandsOfRow.holds Try.pinned (OpenSpec.ofChange fnExactCommandsOfWrong)

/-- 'laws.FnExactRetriesOf': WHATEVER THE INPUT: true; the input reads as it did. -/
def fnExactRetriesOfSpec : ChangeSpec := { name := "fnExactRetriesOf", fn := fun _ => fun
  | [d] => { results := [.lit (.bool true)], args := [d] }
  | _ => none }
def fnExactRetriesOfRow : OpenClaim := { program := "ytdefckbgcggnoaa", sum := "46c94ba10ab4ab923cfeabeeab5d8fa85d6a7e3f798c167f7ef629ab9993bf11", func := "loop.example/g00734/laws.FnExactRetriesOf", spec := "fnExactRetriesOf", inPlace := ["(*sync.WaitGroup).Add", "internal/race.ReleaseMerge", "internal/race.Disable", "internal/race.Enable", "internal/synctest.IsInBubble", "internal/synctest.Associate[sync.WaitGroup]", "sync.fatal", "sync/atomic.OrUint64", "sync/atomic.AddUint64", "internal/race.Read", "sync/atomic.LoadUint64", "sync/atomic.StoreUint64", "internal/synctest.Disassociate[sync.WaitGroup]", "sync.runtime_Semrelease", "(*sync.WaitGroup).Done", "(*sync.WaitGroup).Wait", "internal/race.Acquire", "internal/synctest.IsAssociated[sync.WaitGroup]", "sync/atomic.CompareAndSwapUint64", "internal/race.Write", "sync.runtime_SemacquireWaitGroup"], unfollowed := true, recurses := true, leaving := true, apart := false }
def FnExactRetriesOfSaid : Prop := fnExactRetriesOfRow.holds Try.pinned (OpenSpec.ofChange fnExactRetriesOfSpec)

/-- ITS FALSE NEIGHBOUR: 'it returns false'. Refute it at one input. -/
def fnExactRetriesOfWrong : ChangeSpec := { name := "fnExactRetriesOf", fn := fun _ => fun
  | [d] => { results := [.lit (.bool false)], args := [d] }
  | _ => none }
def FnExactRetriesOfWrongFalsely : Prop := fnExactRetriesOfRow.holds Try.pinned (OpenSpec.ofChange fnExactRetriesOfWrong)

/- THE SECOND FORM. 'bulk': how many values and letters a reading holds, each counted each time it is reached (what is shared counts as often as it is met; a slice's spare places count too). A statement '..UptoSaid' is the law's where the arguments, and the package variables that the reading takes, are together of bulk at most 1048576: NARROWER than '..Said'. Prove '..Said' where nothing that the law and all that it calls make is longer than what came in: it says more and counts as full. Else prove '..UptoSaid'. A law counts once. -/
mutual
def uptoBulk {H : Type} : DataW H → Nat
  | .lit (.string bytes) => bytes.length + 1
  | .lit _ => 1
  | .nil => 1
  | .ptr d => uptoBulk d + 1
  | .slice elems spare => uptoBulkAll elems + uptoBulkAll spare + 1
  | .agg parts => uptoBulkAll parts + 1
  | .iface _ d => uptoBulk d + 1
  | .map entries => uptoBulkEntries entries + 1
  | .held _ => 1
def uptoBulkAll {H : Type} : List (DataW H) → Nat
  | [] => 0
  | d :: r => uptoBulk d + uptoBulkAll r
def uptoBulkEntries {H : Type} : List (Lit × DataW H) → Nat
  | [] => 0
  | x :: r => uptoBulkEntry x + uptoBulkEntries r
def uptoBulkEntry {H : Type} : Lit × DataW H → Nat
  | (.string bytes, d) => bytes.length + uptoBulk d + 1
  | (_, d) => uptoBulk d + 1
 end
def uptoSmall : (H : Type) → List (DataW H) → Bool := fun _ ds => decide (uptoBulkAll ds ≤ 1048576)
def OpenSpec.upto (s : _root_.Go.ChangeSpec) : _root_.Go.OpenSpec := { _root_.Go.OpenSpec.ofChange s with cond := some uptoSmall }

/-- 'laws.FnExactMostPods', WHERE WHAT IT READS IS OF BULK AT MOST 1048576: true; the input reads as it did. -/
def fnExactMostPodsUptoRow : OpenClaim := { program := "ytdefckbgcggnoaa", sum := "46c94ba10ab4ab923cfeabeeab5d8fa85d6a7e3f798c167f7ef629ab9993bf11", func := "loop.example/g00734/laws.FnExactMostPods", spec := "fnExactMostPods", unfollowed := true, recurses := true, leaving := true, apart := false, narrowed := true }
def FnExactMostPodsUptoSaid : Prop := fnExactMostPodsUptoRow.holds Try.pinned (OpenSpec.upto fnExactMostPodsSpec)

/-- 'laws.FnExactCeilingKept', WHERE WHAT IT READS IS OF BULK AT MOST 1048576: true; the input reads as it did. -/
def fnExactCeilingKeptUptoRow : OpenClaim := { program := "ytdefckbgcggnoaa", sum := "46c94ba10ab4ab923cfeabeeab5d8fa85d6a7e3f798c167f7ef629ab9993bf11", func := "loop.example/g00734/laws.FnExactCeilingKept", spec := "fnExactCeilingKept", inPlace := ["(*sync.WaitGroup).Add", "internal/race.ReleaseMerge", "internal/race.Disable", "internal/race.Enable", "internal/synctest.IsInBubble", "internal/synctest.Associate[sync.WaitGroup]", "sync.fatal", "sync/atomic.OrUint64", "sync/atomic.AddUint64", "internal/race.Read", "sync/atomic.LoadUint64", "sync/atomic.StoreUint64", "internal/synctest.Disassociate[sync.WaitGroup]", "sync.runtime_Semrelease", "(*sync.WaitGroup).Done", "(*sync.WaitGroup).Wait", "internal/race.Acquire", "internal/synctest.IsAssociated[sync.WaitGroup]", "sync/atomic.CompareAndSwapUint64", "internal/race.Write", "sync.runtime_SemacquireWaitGroup"], unfollowed := true, recurses := true, leaving := true, apart := false, narrowed := true }
def FnExactCeilingKeptUptoSaid : Prop := fnExactCeilingKeptUptoRow.holds Try.pinned (OpenSpec.upto fnExactCeilingKeptSpec)

/-- 'laws.FnExactBacksBetween', WHERE WHAT IT READS IS OF BULK AT MOST 1048576: true; the input reads as it did. -/
def fnExactBacksBetweenUptoRow : OpenClaim := { program := "ytdefckbgcggnoaa", sum := "46c94ba10ab4ab923cfeabeeab5d8fa85d6a7e3f798c167f7ef629ab9993bf11", func := "loop.example/g00734/laws.FnExactBacksBetween", spec := "fnExactBacksBetween", apart := false, narrowed := true }
def FnExactBacksBetweenUptoSaid : Prop := fnExactBacksBetweenUptoRow.holds Try.pinned (OpenSpec.upto fnExactBacksBetweenSpec)

/-- 'laws.FnExactOneBack', WHERE WHAT IT READS IS OF BULK AT MOST 1048576: true; the input reads as it did. -/
def fnExactOneBackUptoRow : OpenClaim := { program := "ytdefckbgcggnoaa", sum := "46c94ba10ab4ab923cfeabeeab5d8fa85d6a7e3f798c167f7ef629ab9993bf11", func := "loop.example/g00734/laws.FnExactOneBack", spec := "fnExactOneBack", inPlace := ["(*sync.WaitGroup).Add", "internal/race.ReleaseMerge", "internal/race.Disable", "internal/race.Enable", "internal/synctest.IsInBubble", "internal/synctest.Associate[sync.WaitGroup]", "sync.fatal", "sync/atomic.OrUint64", "sync/atomic.AddUint64", "internal/race.Read", "sync/atomic.LoadUint64", "sync/atomic.StoreUint64", "internal/synctest.Disassociate[sync.WaitGroup]", "sync.runtime_Semrelease", "(*sync.WaitGroup).Done", "(*sync.WaitGroup).Wait", "internal/race.Acquire", "internal/synctest.IsAssociated[sync.WaitGroup]", "sync/atomic.CompareAndSwapUint64", "internal/race.Write", "sync.runtime_SemacquireWaitGroup"], unfollowed := true, recurses := true, leaving := true, apart := false, narrowed := true }
def FnExactOneBackUptoSaid : Prop := fnExactOneBackUptoRow.holds Try.pinned (OpenSpec.upto fnExactOneBackSpec)

/-- 'laws.FnExactGoodOnly', WHERE WHAT IT READS IS OF BULK AT MOST 1048576: true; the input reads as it did. -/
def fnExactGoodOnlyUptoRow : OpenClaim := { program := "ytdefckbgcggnoaa", sum := "46c94ba10ab4ab923cfeabeeab5d8fa85d6a7e3f798c167f7ef629ab9993bf11", func := "loop.example/g00734/laws.FnExactGoodOnly", spec := "fnExactGoodOnly", inPlace := ["(*sync.WaitGroup).Add", "internal/race.ReleaseMerge", "internal/race.Disable", "internal/race.Enable", "internal/synctest.IsInBubble", "internal/synctest.Associate[sync.WaitGroup]", "sync.fatal", "sync/atomic.OrUint64", "sync/atomic.AddUint64", "internal/race.Read", "sync/atomic.LoadUint64", "sync/atomic.StoreUint64", "internal/synctest.Disassociate[sync.WaitGroup]", "sync.runtime_Semrelease", "(*sync.WaitGroup).Done", "(*sync.WaitGroup).Wait", "internal/race.Acquire", "internal/synctest.IsAssociated[sync.WaitGroup]", "sync/atomic.CompareAndSwapUint64", "internal/race.Write", "sync.runtime_SemacquireWaitGroup"], unfollowed := true, recurses := true, leaving := true, apart := false, narrowed := true }
def FnExactGoodOnlyUptoSaid : Prop := fnExactGoodOnlyUptoRow.holds Try.pinned (OpenSpec.upto fnExactGoodOnlySpec)

/-- 'laws.FnExactCreatedOnce', WHERE WHAT IT READS IS OF BULK AT MOST 1048576: true; the input reads as it did. -/
def fnExactCreatedOnceUptoRow : OpenClaim := { program := "ytdefckbgcggnoaa", sum := "46c94ba10ab4ab923cfeabeeab5d8fa85d6a7e3f798c167f7ef629ab9993bf11", func := "loop.example/g00734/laws.FnExactCreatedOnce", spec := "fnExactCreatedOnce", inPlace := ["(*sync.WaitGroup).Add", "internal/race.ReleaseMerge", "internal/race.Disable", "internal/race.Enable", "internal/synctest.IsInBubble", "internal/synctest.Associate[sync.WaitGroup]", "sync.fatal", "sync/atomic.OrUint64", "sync/atomic.AddUint64", "internal/race.Read", "sync/atomic.LoadUint64", "sync/atomic.StoreUint64", "internal/synctest.Disassociate[sync.WaitGroup]", "sync.runtime_Semrelease", "(*sync.WaitGroup).Done", "(*sync.WaitGroup).Wait", "internal/race.Acquire", "internal/synctest.IsAssociated[sync.WaitGroup]", "sync/atomic.CompareAndSwapUint64", "internal/race.Write", "sync.runtime_SemacquireWaitGroup"], unfollowed := true, recurses := true, leaving := true, apart := false, narrowed := true }
def FnExactCreatedOnceUptoSaid : Prop := fnExactCreatedOnceUptoRow.holds Try.pinned (OpenSpec.upto fnExactCreatedOnceSpec)

/-- 'laws.FnExactQuietAfter', WHERE WHAT IT READS IS OF BULK AT MOST 1048576: true; the input reads as it did. -/
def fnExactQuietAfterUptoRow : OpenClaim := { program := "ytdefckbgcggnoaa", sum := "46c94ba10ab4ab923cfeabeeab5d8fa85d6a7e3f798c167f7ef629ab9993bf11", func := "loop.example/g00734/laws.FnExactQuietAfter", spec := "fnExactQuietAfter", inPlace := ["(*sync.WaitGroup).Add", "internal/race.ReleaseMerge", "internal/race.Disable", "internal/race.Enable", "internal/synctest.IsInBubble", "internal/synctest.Associate[sync.WaitGroup]", "sync.fatal", "sync/atomic.OrUint64", "sync/atomic.AddUint64", "internal/race.Read", "sync/atomic.LoadUint64", "sync/atomic.StoreUint64", "internal/synctest.Disassociate[sync.WaitGroup]", "sync.runtime_Semrelease", "(*sync.WaitGroup).Done", "(*sync.WaitGroup).Wait", "internal/race.Acquire", "internal/synctest.IsAssociated[sync.WaitGroup]", "sync/atomic.CompareAndSwapUint64", "internal/race.Write", "sync.runtime_SemacquireWaitGroup"], unfollowed := true, recurses := true, leaving := true, apart := false, narrowed := true }
def FnExactQuietAfterUptoSaid : Prop := fnExactQuietAfterUptoRow.holds Try.pinned (OpenSpec.upto fnExactQuietAfterSpec)

/-- 'laws.FnExactCommandsOf', WHERE WHAT IT READS IS OF BULK AT MOST 1048576: true; the input reads as it did. -/
def fnExactCommandsOfUptoRow : OpenClaim := { program := "ytdefckbgcggnoaa", sum := "46c94ba10ab4ab923cfeabeeab5d8fa85d6a7e3f798c167f7ef629ab9993bf11", func := "loop.example/g00734/laws.FnExactCommandsOf", spec := "fnExactCommandsOf", apart := false, narrowed := true }
def FnExactCommandsOfUptoSaid : Prop := fnExactCommandsOfUptoRow.holds Try.pinned (OpenSpec.upto fnExactCommandsOfSpec)

/-- 'laws.FnExactRetriesOf', WHERE WHAT IT READS IS OF BULK AT MOST 1048576: true; the input reads as it did. -/
def fnExactRetriesOfUptoRow : OpenClaim := { program := "ytdefckbgcggnoaa", sum := "46c94ba10ab4ab923cfeabeeab5d8fa85d6a7e3f798c167f7ef629ab9993bf11", func := "loop.example/g00734/laws.FnExactRetriesOf", spec := "fnExactRetriesOf", inPlace := ["(*sync.WaitGroup).Add", "internal/race.ReleaseMerge", "internal/race.Disable", "internal/race.Enable", "internal/synctest.IsInBubble", "internal/synctest.Associate[sync.WaitGroup]", "sync.fatal", "sync/atomic.OrUint64", "sync/atomic.AddUint64", "internal/race.Read", "sync/atomic.LoadUint64", "sync/atomic.StoreUint64", "internal/synctest.Disassociate[sync.WaitGroup]", "sync.runtime_Semrelease", "(*sync.WaitGroup).Done", "(*sync.WaitGroup).Wait", "internal/race.Acquire", "internal/synctest.IsAssociated[sync.WaitGroup]", "sync/atomic.CompareAndSwapUint64", "internal/race.Write", "sync.runtime_SemacquireWaitGroup"], unfollowed := true, recurses := true, leaving := true, apart := false, narrowed := true }
def FnExactRetriesOfUptoSaid : Prop := fnExactRetriesOfUptoRow.holds Try.pinned (OpenSpec.upto fnExactRetriesOfSpec)

end Rows
end Go.Proofs.Ytdefckbgcggnoaa
