/-
  No cell of these rows narrows 'for every input' (looked for: loops, veiled, ifaces, maps, wideKeys, modest, calm, conditions, laid).
  DERIVED. THE GIVEN ROWS OF THIS SEAT. 3 by the template 'for every input the law returns true; each argument reads behind the call as it read before'; 0 by the template 'total and deterministic' (their statements: YtlghdmakaocokaaTotals.lean).
  GIVEN WITH THE SEED: the statements are not yours to turn. If you find one false, say at which input.
  Laid BY PROGRAM, IN A SANDBOX (cutbox-rows.mjs): the forced cells as the released guide's own fill.sh prints them over the translation bc151ee3d503baf4… (all of the seat's roots in one cut). By AI agents, Wed Nov 11 2026. No macro, syntax, notation, axiom, sorry.
-/
import Derived.Test.YtlghdmakaocokaaChecked
import GoSem.Claim
import GoSem.ClaimJoined
import GoSem.ClaimMapViews
import Derived.JoinedTies
import Derived.KernelRfl
namespace Go.Proofs.Ytlghdmakaocokaa
/- THE CELL 'sum', in the pinned program and in every row, IS THE sha256 OF THE DUMP (.gsa) THAT YtlghdmakaocokaaProg.lean LOADS. Nothing in Lean hashes anything: it is a label: what it is worth is what the hold of that sum in a sandbox is worth. -/
noncomputable def Try.pinned : Pinned := { name := "ytlghdmakaocokaa", sum := "bc151ee3d503baf4b27c04000462a756fbb0e72c089e25dfce2c80781cd05e30", checked := Try.checked }
namespace Rows
def none {H : Type} : Left H := { results := [], args := [] }

/-- 'laws.FnExactWorldOk': WHATEVER THE INPUT: true; the input reads as it did. -/
def fnExactWorldOkSpec : ChangeSpec := { name := "fnExactWorldOk", fn := fun _ => fun
  | [d] => { results := [.lit (.bool true)], args := [d] }
  | _ => none }
def fnExactWorldOkRow : OpenClaim := { program := "ytlghdmakaocokaa", sum := "bc151ee3d503baf4b27c04000462a756fbb0e72c089e25dfce2c80781cd05e30", func := "loop.example/g00734/laws.FnExactWorldOk", spec := "fnExactWorldOk", apart := false }
def FnExactWorldOkSaid : Prop := fnExactWorldOkRow.holds Try.pinned (OpenSpec.ofChange fnExactWorldOkSpec)

/-- ITS FALSE NEIGHBOUR: 'it returns false'. Refute it at one input. -/
def fnExactWorldOkWrong : ChangeSpec := { name := "fnExactWorldOk", fn := fun _ => fun
  | [d] => { results := [.lit (.bool false)], args := [d] }
  | _ => none }
def FnExactWorldOkWrongFalsely : Prop := fnExactWorldOkRow.holds Try.pinned (OpenSpec.ofChange fnExactWorldOkWrong)

/-- 'laws.FnExactChangesOk': WHATEVER THE INPUT: true; the input reads as it did. -/
def fnExactChangesOkSpec : ChangeSpec := { name := "fnExactChangesOk", fn := fun _ => fun
  | [d] => { results := [.lit (.bool true)], args := [d] }
  | _ => none }
def fnExactChangesOkRow : OpenClaim := { program := "ytlghdmakaocokaa", sum := "bc151ee3d503baf4b27c04000462a756fbb0e72c089e25dfce2c80781cd05e30", func := "loop.example/g00734/laws.FnExactChangesOk", spec := "fnExactChangesOk", apart := false }
def FnExactChangesOkSaid : Prop := fnExactChangesOkRow.holds Try.pinned (OpenSpec.ofChange fnExactChangesOkSpec)

/-- ITS FALSE NEIGHBOUR: 'it returns false'. Refute it at one input. -/
def fnExactChangesOkWrong : ChangeSpec := { name := "fnExactChangesOk", fn := fun _ => fun
  | [d] => { results := [.lit (.bool false)], args := [d] }
  | _ => none }
def FnExactChangesOkWrongFalsely : Prop := fnExactChangesOkRow.holds Try.pinned (OpenSpec.ofChange fnExactChangesOkWrong)

/-- 'laws.FnExactWorldBound': WHATEVER THE INPUT: true; the input reads as it did. -/
def fnExactWorldBoundSpec : ChangeSpec := { name := "fnExactWorldBound", fn := fun _ => fun
  | [d1, d2] => { results := [.lit (.bool true)], args := [d1, d2] }
  | _ => none }
def fnExactWorldBoundRow : OpenClaim := { program := "ytlghdmakaocokaa", sum := "bc151ee3d503baf4b27c04000462a756fbb0e72c089e25dfce2c80781cd05e30", func := "loop.example/g00734/laws.FnExactWorldBound", spec := "fnExactWorldBound", unfollowed := true, recurses := true, apart := false }
def FnExactWorldBoundSaid : Prop := fnExactWorldBoundRow.holds Try.pinned (OpenSpec.ofChange fnExactWorldBoundSpec)

/-- ITS FALSE NEIGHBOUR: 'it returns false'. Refute it at one input. -/
def fnExactWorldBoundWrong : ChangeSpec := { name := "fnExactWorldBound", fn := fun _ => fun
  | [d1, d2] => { results := [.lit (.bool false)], args := [d1, d2] }
  | _ => none }
def FnExactWorldBoundWrongFalsely : Prop := fnExactWorldBoundRow.holds Try.pinned (OpenSpec.ofChange fnExactWorldBoundWrong)

/- THE SECOND FORM. 'bulk': how many values and letters a reading holds, each counted each time it is reached (what is shared counts as often as it is met; a slice's spare places count too). A statement '..UptoSaid' is the law's where the arguments, and the package variables that the reading takes, are together of bulk at most 1048576: NARROWER than '..Said'. Prove '..Said' where nothing that the law and all that it calls make is longer than what came in: it says more and counts as full. Else prove '..UptoSaid'. A law counts once. -/
mutual
def uptoBulk {H : Type} : DataW H → Nat
  | .lit (.string bytes) => bytes.length + 1
  | .lit _ => 1
  | .nil => 1
  | .ptr d => uptoBulk d + 1
  | .slice elems spare => uptoBulkAll elems + uptoBulkAll spare + 1
  | .agg parts => uptoBulkAll parts + 1
  | .iface _ d => uptoBulk d + 1
  | .map entries => uptoBulkEntries entries + 1
  | .held _ => 1
def uptoBulkAll {H : Type} : List (DataW H) → Nat
  | [] => 0
  | d :: r => uptoBulk d + uptoBulkAll r
def uptoBulkEntries {H : Type} : List (Lit × DataW H) → Nat
  | [] => 0
  | x :: r => uptoBulkEntry x + uptoBulkEntries r
def uptoBulkEntry {H : Type} : Lit × DataW H → Nat
  | (.string bytes, d) => bytes.length + uptoBulk d + 1
  | (_, d) => uptoBulk d + 1
 end
def uptoSmall : (H : Type) → List (DataW H) → Bool := fun _ ds => decide (uptoBulkAll ds ≤ 1048576)
def OpenSpec.upto (s : _root_.Go.ChangeSpec) : _root_.Go.OpenSpec := { _root_.Go.OpenSpec.ofChange s with cond := some uptoSmall }

/-- 'laws.FnExactWorldOk', WHERE WHAT IT READS IS OF BULK AT MOST 1048576: true; the input reads as it did. -/
def fnExactWorldOkUptoRow : OpenClaim := { program := "ytlghdmakaocokaa", sum := "bc151ee3d503baf4b27c04000462a756fbb0e72c089e25dfce2c80781cd05e30", func := "loop.example/g00734/laws.FnExactWorldOk", spec := "fnExactWorldOk", apart := false, narrowed := true }
def FnExactWorldOkUptoSaid : Prop := fnExactWorldOkUptoRow.holds Try.pinned (OpenSpec.upto fnExactWorldOkSpec)

/-- 'laws.FnExactChangesOk', WHERE WHAT IT READS IS OF BULK AT MOST 1048576: true; the input reads as it did. -/
def fnExactChangesOkUptoRow : OpenClaim := { program := "ytlghdmakaocokaa", sum := "bc151ee3d503baf4b27c04000462a756fbb0e72c089e25dfce2c80781cd05e30", func := "loop.example/g00734/laws.FnExactChangesOk", spec := "fnExactChangesOk", apart := false, narrowed := true }
def FnExactChangesOkUptoSaid : Prop := fnExactChangesOkUptoRow.holds Try.pinned (OpenSpec.upto fnExactChangesOkSpec)

/-- 'laws.FnExactWorldBound', WHERE WHAT IT READS IS OF BULK AT MOST 1048576: true; the input reads as it did. -/
def fnExactWorldBoundUptoRow : OpenClaim := { program := "ytlghdmakaocokaa", sum := "bc151ee3d503baf4b27c04000462a756fbb0e72c089e25dfce2c80781cd05e30", func := "loop.example/g00734/laws.FnExactWorldBound", spec := "fnExactWorldBound", unfollowed := true, recurses := true, apart := false, narrowed := true }
def FnExactWorldBoundUptoSaid : Prop := fnExactWorldBoundUptoRow.holds Try.pinned (OpenSpec.upto fnExactWorldBoundSpec)

end Rows
end Go.Proofs.Ytlghdmakaocokaa
