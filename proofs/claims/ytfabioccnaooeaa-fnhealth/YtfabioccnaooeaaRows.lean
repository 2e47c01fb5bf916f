/-
  No cell of these rows narrows 'for every input' (looked for: loops, veiled, ifaces, maps, wideKeys, modest, calm, conditions, laid).
  DERIVED. THE GIVEN ROWS OF THIS SEAT. 9 by the template 'for every input the law returns true; each argument reads behind the call as it read before'; 0 by the template 'total and deterministic' (their statements: YtfabioccnaooeaaTotals.lean).
  GIVEN WITH THE SEED: the statements are not yours to turn. If you find one false, say at which input.
  Laid BY PROGRAM, IN A SANDBOX (cutbox-rows.mjs): the forced cells as the released guide's own fill.sh prints them over the translation f32d80b9558f0f1d… (all of the seat's roots in one cut). By AI agents, Wed Nov 11 2026. No macro, syntax, notation, axiom, sorry.
-/
import Derived.Test.YtfabioccnaooeaaChecked
import GoSem.Claim
import GoSem.ClaimJoined
import GoSem.ClaimMapViews
import Derived.JoinedTies
import Derived.KernelRfl
namespace Go.Proofs.Ytfabioccnaooeaa
/- THE CELL 'sum', in the pinned program and in every row, IS THE sha256 OF THE DUMP (.gsa) THAT YtfabioccnaooeaaProg.lean LOADS. Nothing in Lean hashes anything: it is a label: what it is worth is what the hold of that sum in a sandbox is worth. -/
noncomputable def Try.pinned : Pinned := { name := "ytfabioccnaooeaa", sum := "f32d80b9558f0f1d7f333616593e97a250d5671a3921c8ff473f82c064867fc0", checked := Try.checked }
namespace Rows
def none {H : Type} : Left H := { results := [], args := [] }

/-- 'laws.FnHealth': WHATEVER THE INPUT: true; the input reads as it did. -/
def fnHealthSpec : ChangeSpec := { name := "fnHealth", fn := fun _ => fun
  | [d] => { results := [.lit (.bool true)], args := [d] }
  | _ => none }
def fnHealthRow : OpenClaim := { program := "ytfabioccnaooeaa", sum := "f32d80b9558f0f1d7f333616593e97a250d5671a3921c8ff473f82c064867fc0", func := "loop.example/g00734/laws.FnHealth", spec := "fnHealth", unfollowed := true, recurses := true, apart := false }
def FnHealthSaid : Prop := fnHealthRow.holds Try.pinned (OpenSpec.ofChange fnHealthSpec)

/-- ITS FALSE NEIGHBOUR: 'it returns false'. Refute it at one input. -/
def fnHealthWrong : ChangeSpec := { name := "fnHealth", fn := fun _ => fun
  | [d] => { results := [.lit (.bool false)], args := [d] }
  | _ => none }
def FnHealthWrongFalsely : Prop := fnHealthRow.holds Try.pinned (OpenSpec.ofChange fnHealthWrong)

/-- 'laws.FnExactSpecOk': WHATEVER THE INPUT: true; the input reads as it did. -/
def fnExactSpecOkSpec : ChangeSpec := { name := "fnExactSpecOk", fn := fun _ => fun
  | [d] => { results := [.lit (.bool true)], args := [d] }
  | _ => none }
def fnExactSpecOkRow : OpenClaim := { program := "ytfabioccnaooeaa", sum := "f32d80b9558f0f1d7f333616593e97a250d5671a3921c8ff473f82c064867fc0", func := "loop.example/g00734/laws.FnExactSpecOk", spec := "fnExactSpecOk", apart := false }
def FnExactSpecOkSaid : Prop := fnExactSpecOkRow.holds Try.pinned (OpenSpec.ofChange fnExactSpecOkSpec)

/-- ITS FALSE NEIGHBOUR: 'it returns false'. Refute it at one input. -/
def fnExactSpecOkWrong : ChangeSpec := { name := "fnExactSpecOk", fn := fun _ => fun
  | [d] => { results := [.lit (.bool false)], args := [d] }
  | _ => none }
def FnExactSpecOkWrongFalsely : Prop := fnExactSpecOkRow.holds Try.pinned (OpenSpec.ofChange fnExactSpecOkWrong)

/-- 'laws.FnExactDefaultSpec': WHATEVER THE INPUT: true; the input reads as it did. -/
def fnExactDefaultSpecSpec : ChangeSpec := { name := "fnExactDefaultSpec", fn := fun _ => fun
  | [] => { results := [.lit (.bool true)], args := [] }
  | _ => none }
def fnExactDefaultSpecRow : OpenClaim := { program := "ytfabioccnaooeaa", sum := "f32d80b9558f0f1d7f333616593e97a250d5671a3921c8ff473f82c064867fc0", func := "loop.example/g00734/laws.FnExactDefaultSpec", spec := "fnExactDefaultSpec", apart := false }
def FnExactDefaultSpecSaid : Prop := fnExactDefaultSpecRow.holds Try.pinned (OpenSpec.ofChange fnExactDefaultSpecSpec)

/-- ITS FALSE NEIGHBOUR: 'it returns false'. Refute it at one input. -/
def fnExactDefaultSpecWrong : ChangeSpec := { name := "fnExactDefaultSpec", fn := fun _ => fun
  | [] => { results := [.lit (.bool false)], args := [] }
  | _ => none }
def FnExactDefaultSpecWrongFalsely : Prop := fnExactDefaultSpecRow.holds Try.pinned (OpenSpec.ofChange fnExactDefaultSpecWrong)

/-- 'laws.FnExactIsAvailable': WHATEVER THE INPUT: true; the input reads as it did. -/
def fnExactIsAvailableSpec : ChangeSpec := { name := "fnExactIsAvailable", fn := fun _ => fun
  | [d1, d2, d3] => { results := [.lit (.bool true)], args := [d1, d2, d3] }
  | _ => none }
def fnExactIsAvailableRow : OpenClaim := { program := "ytfabioccnaooeaa", sum := "f32d80b9558f0f1d7f333616593e97a250d5671a3921c8ff473f82c064867fc0", func := "loop.example/g00734/laws.FnExactIsAvailable", spec := "fnExactIsAvailable", apart := false }
def FnExactIsAvailableSaid : Prop := fnExactIsAvailableRow.holds Try.pinned (OpenSpec.ofChange fnExactIsAvailableSpec)

/-- ITS FALSE NEIGHBOUR: 'it returns false'. Refute it at one input. -/
def fnExactIsAvailableWrong : ChangeSpec := { name := "fnExactIsAvailable", fn := fun _ => fun
  | [d1, d2, d3] => { results := [.lit (.bool false)], args := [d1, d2, d3] }
  | _ => none }
def FnExactIsAvailableWrongFalsely : Prop := fnExactIsAvailableRow.holds Try.pinned (OpenSpec.ofChange fnExactIsAvailableWrong)

/-- 'laws.FnExactIsLost': WHATEVER THE INPUT: true; the input reads as it did. -/
def fnExactIsLostSpec : ChangeSpec := { name := "fnExactIsLost", fn := fun _ => fun
  | [d1, d2, d3] => { results := [.lit (.bool true)], args := [d1, d2, d3] }
  | _ => none }
def fnExactIsLostRow : OpenClaim := { program := "ytfabioccnaooeaa", sum := "f32d80b9558f0f1d7f333616593e97a250d5671a3921c8ff473f82c064867fc0", func := "loop.example/g00734/laws.FnExactIsLost", spec := "fnExactIsLost", apart := false }
def FnExactIsLostSaid : Prop := fnExactIsLostRow.holds Try.pinned (OpenSpec.ofChange fnExactIsLostSpec)

/-- ITS FALSE NEIGHBOUR: 'it returns false'. Refute it at one input. -/
def fnExactIsLostWrong : ChangeSpec := { name := "fnExactIsLost", fn := fun _ => fun
  | [d1, d2, d3] => { results := [.lit (.bool false)], args := [d1, d2, d3] }
  | _ => none }
def FnExactIsLostWrongFalsely : Prop := fnExactIsLostRow.holds Try.pinned (OpenSpec.ofChange fnExactIsLostWrong)

/-- 'laws.FnExactAvailableOf': WHATEVER THE INPUT: true; the input reads as it did. -/
def fnExactAvailableOfSpec : ChangeSpec := { name := "fnExactAvailableOf", fn := fun _ => fun
  | [d1, d2, d3, d4] => { results := [.lit (.bool true)], args := [d1, d2, d3, d4] }
  | _ => none }
def fnExactAvailableOfRow : OpenClaim := { program := "ytfabioccnaooeaa", sum := "f32d80b9558f0f1d7f333616593e97a250d5671a3921c8ff473f82c064867fc0", func := "loop.example/g00734/laws.FnExactAvailableOf", spec := "fnExactAvailableOf", unfollowed := true, recurses := true, apart := false }
def FnExactAvailableOfSaid : Prop := fnExactAvailableOfRow.holds Try.pinned (OpenSpec.ofChange fnExactAvailableOfSpec)

/-- ITS FALSE NEIGHBOUR: 'it returns false'. Refute it at one input. -/
def fnExactAvailableOfWrong : ChangeSpec := { name := "fnExactAvailableOf", fn := fun _ => fun
  | [d1, d2, d3, d4] => { results := [.lit (.bool false)], args := [d1, d2, d3, d4] }
  | _ => none }
def FnExactAvailableOfWrongFalsely : Prop := fnExactAvailableOfRow.holds Try.pinned (OpenSpec.ofChange fnExactAvailableOfWrong)

/-- 'laws.FnExactLostOf': WHATEVER THE INPUT: true; the input reads as it did. -/
def fnExactLostOfSpec : ChangeSpec := { name := "fnExactLostOf", fn := fun _ => fun
  | [d1, d2, d3] => { results := [.lit (.bool true)], args := [d1, d2, d3] }
  | _ => none }
def fnExactLostOfRow : OpenClaim := { program := "ytfabioccnaooeaa", sum := "f32d80b9558f0f1d7f333616593e97a250d5671a3921c8ff473f82c064867fc0", func := "loop.example/g00734/laws.FnExactLostOf", spec := "fnExactLostOf", unfollowed := true, recurses := true, apart := false }
def FnExactLostOfSaid : Prop := fnExactLostOfRow.holds Try.pinned (OpenSpec.ofChange fnExactLostOfSpec)

/-- ITS FALSE NEIGHBOUR: 'it returns false'. Refute it at one input. -/
def fnExactLostOfWrong : ChangeSpec := { name := "fnExactLostOf", fn := fun _ => fun
  | [d1, d2, d3] => { results := [.lit (.bool false)], args := [d1, d2, d3] }
  | _ => none }
def FnExactLostOfWrongFalsely : Prop := fnExactLostOfRow.holds Try.pinned (OpenSpec.ofChange fnExactLostOfWrong)

/-- 'laws.FnExactRetryWait': WHATEVER THE INPUT: true; the input reads as it did. -/
def fnExactRetryWaitSpec : ChangeSpec := { name := "fnExactRetryWait", fn := fun _ => fun
  | [d1, d2] => { results := [.lit (.bool true)], args := [d1, d2] }
  | _ => none }
def fnExactRetryWaitRow : OpenClaim := { program := "ytfabioccnaooeaa", sum := "f32d80b9558f0f1d7f333616593e97a250d5671a3921c8ff473f82c064867fc0", func := "loop.example/g00734/laws.FnExactRetryWait", spec := "fnExactRetryWait", apart := false }
def FnExactRetryWaitSaid : Prop := fnExactRetryWaitRow.holds Try.pinned (OpenSpec.ofChange fnExactRetryWaitSpec)

/-- ITS FALSE NEIGHBOUR: 'it returns false'. Refute it at one input. -/
def fnExactRetryWaitWrong : ChangeSpec := { name := "fnExactRetryWait", fn := fun _ => fun
  | [d1, d2] => { results := [.lit (.bool false)], args := [d1, d2] }
  | _ => none }
def FnExactRetryWaitWrongFalsely : Prop := fnExactRetryWaitRow.holds Try.pinned (OpenSpec.ofChange fnExactRetryWaitWrong)

/-- 'laws.FnExactNextHealth': WHATEVER THE INPUT: true; the input reads as it did. -/
def fnExactNextHealthSpec : ChangeSpec := { name := "fnExactNextHealth", fn := fun _ => fun
  | [d1, d2] => { results := [.lit (.bool true)], args := [d1, d2] }
  | _ => none }
def fnExactNextHealthRow : OpenClaim := { program := "ytfabioccnaooeaa", sum := "f32d80b9558f0f1d7f333616593e97a250d5671a3921c8ff473f82c064867fc0", func := "loop.example/g00734/laws.FnExactNextHealth", spec := "fnExactNextHealth", unfollowed := true, recurses := true, apart := false }
def FnExactNextHealthSaid : Prop := fnExactNextHealthRow.holds Try.pinned (OpenSpec.ofChange fnExactNextHealthSpec)

/-- ITS FALSE NEIGHBOUR: 'it returns false'. Refute it at one input. -/
def fnExactNextHealthWrong : ChangeSpec := { name := "fnExactNextHealth", fn := fun _ => fun
  | [d1, d2] => { results := [.lit (.bool false)], args := [d1, d2] }
  | _ => none }
def FnExactNextHealthWrongFalsely : Prop := fnExactNextHealthRow.holds Try.pinned (OpenSpec.ofChange fnExactNextHealthWrong)

/- THE SECOND FORM. 'bulk': how many values and letters a reading holds, each counted each time it is reached (what is shared counts as often as it is met; a slice's spare places count too). A statement '..UptoSaid' is the law's where the arguments, and the package variables that the reading takes, are together of bulk at most 1048576: NARROWER than '..Said'. Prove '..Said' where nothing that the law and all that it calls make is longer than what came in: it says more and counts as full. Else prove '..UptoSaid'. A law counts once. -/
mutual
def uptoBulk {H : Type} : DataW H → Nat
  | .lit (.string bytes) => bytes.length + 1
  | .lit _ => 1
  | .nil => 1
  | .ptr d => uptoBulk d + 1
  | .slice elems spare => uptoBulkAll elems + uptoBulkAll spare + 1
  | .agg parts => uptoBulkAll parts + 1
  | .iface _ d => uptoBulk d + 1
  | .map entries => uptoBulkEntries entries + 1
  | .held _ => 1
def uptoBulkAll {H : Type} : List (DataW H) → Nat
  | [] => 0
  | d :: r => uptoBulk d + uptoBulkAll r
def uptoBulkEntries {H : Type} : List (Lit × DataW H) → Nat
  | [] => 0
  | x :: r => uptoBulkEntry x + uptoBulkEntries r
def uptoBulkEntry {H : Type} : Lit × DataW H → Nat
  | (.string bytes, d) => bytes.length + uptoBulk d + 1
  | (_, d) => uptoBulk d + 1
 end
def uptoSmall : (H : Type) → List (DataW H) → Bool := fun _ ds => decide (uptoBulkAll ds ≤ 1048576)
def OpenSpec.upto (s : _root_.Go.ChangeSpec) : _root_.Go.OpenSpec := { _root_.Go.OpenSpec.ofChange s with cond := some uptoSmall }

/-- 'laws.FnHealth', WHERE WHAT IT READS IS OF BULK AT MOST 1048576: true; the input reads as it did. -/
def fnHealthUptoRow : OpenClaim := { program := "ytfabioccnaooeaa", sum := "f32d80b9558f0f1d7f333616593e97a250d5671a3921c8ff473f82c064867fc0", func := "loop.example/g00734/laws.FnHealth", spec := "fnHealth", unfollowed := true, recurses := true, apart := false, narrowed := true }
def FnHealthUptoSaid : Prop := fnHealthUptoRow.holds Try.pinned (OpenSpec.upto fnHealthSpec)

/-- 'laws.FnExactSpecOk', WHERE WHAT IT READS IS OF BULK AT MOST 1048576: true; the input reads as it did. -/
def fnExactSpecOkUptoRow : OpenClaim := { program := "ytfabioccnaooeaa", sum := "f32d80b9558f0f1d7f333616593e97a250d5671a3921c8ff473f82c064867fc0", func := "loop.example/g00734/laws.FnExactSpecOk", spec := "fnExactSpecOk", apart := false, narrowed := true }
def FnExactSpecOkUptoSaid : Prop := fnExactSpecOkUptoRow.holds Try.pinned (OpenSpec.upto fnExactSpecOkSpec)

/-- 'laws.FnExactDefaultSpec', WHERE WHAT IT READS IS OF BULK AT MOST 1048576: true; the input reads as it did. -/
def fnExactDefaultSpecUptoRow : OpenClaim := { program := "ytfabioccnaooeaa", sum := "f32d80b9558f0f1d7f333616593e97a250d5671a3921c8ff473f82c064867fc0", func := "loop.example/g00734/laws.FnExactDefaultSpec", spec := "fnExactDefaultSpec", apart := false, narrowed := true }
def FnExactDefaultSpecUptoSaid : Prop := fnExactDefaultSpecUptoRow.holds Try.pinned (OpenSpec.upto fnExactDefaultSpecSpec)

/-- 'laws.FnExactIsAvailable', WHERE WHAT IT READS IS OF BULK AT MOST 1048576: true; the input reads as it did. -/
def fnExactIsAvailableUptoRow : OpenClaim := { program := "ytfabioccnaooeaa", sum := "f32d80b9558f0f1d7f333616593e97a250d5671a3921c8ff473f82c064867fc0", func := "loop.example/g00734/laws.FnExactIsAvailable", spec := "fnExactIsAvailable", apart := false, narrowed := true }
def FnExactIsAvailableUptoSaid : Prop := fnExactIsAvailableUptoRow.holds Try.pinned (OpenSpec.upto fnExactIsAvailableSpec)

/-- 'laws.FnExactIsLost', WHERE WHAT IT READS IS OF BULK AT MOST 1048576: true; the input reads as it did. -/
def fnExactIsLostUptoRow : OpenClaim := { program := "ytfabioccnaooeaa", sum := "f32d80b9558f0f1d7f333616593e97a250d5671a3921c8ff473f82c064867fc0", func := "loop.example/g00734/laws.FnExactIsLost", spec := "fnExactIsLost", apart := false, narrowed := true }
def FnExactIsLostUptoSaid : Prop := fnExactIsLostUptoRow.holds Try.pinned (OpenSpec.upto fnExactIsLostSpec)

/-- 'laws.FnExactAvailableOf', WHERE WHAT IT READS IS OF BULK AT MOST 1048576: true; the input reads as it did. -/
def fnExactAvailableOfUptoRow : OpenClaim := { program := "ytfabioccnaooeaa", sum := "f32d80b9558f0f1d7f333616593e97a250d5671a3921c8ff473f82c064867fc0", func := "loop.example/g00734/laws.FnExactAvailableOf", spec := "fnExactAvailableOf", unfollowed := true, recurses := true, apart := false, narrowed := true }
def FnExactAvailableOfUptoSaid : Prop := fnExactAvailableOfUptoRow.holds Try.pinned (OpenSpec.upto fnExactAvailableOfSpec)

/-- 'laws.FnExactLostOf', WHERE WHAT IT READS IS OF BULK AT MOST 1048576: true; the input reads as it did. -/
def fnExactLostOfUptoRow : OpenClaim := { program := "ytfabioccnaooeaa", sum := "f32d80b9558f0f1d7f333616593e97a250d5671a3921c8ff473f82c064867fc0", func := "loop.example/g00734/laws.FnExactLostOf", spec := "fnExactLostOf", unfollowed := true, recurses := true, apart := false, narrowed := true }
def FnExactLostOfUptoSaid : Prop := fnExactLostOfUptoRow.holds Try.pinned (OpenSpec.upto fnExactLostOfSpec)

/-- 'laws.FnExactRetryWait', WHERE WHAT IT READS IS OF BULK AT MOST 1048576: true; the input reads as it did. -/
def fnExactRetryWaitUptoRow : OpenClaim := { program := "ytfabioccnaooeaa", sum := "f32d80b9558f0f1d7f333616593e97a250d5671a3921c8ff473f82c064867fc0", func := "loop.example/g00734/laws.FnExactRetryWait", spec := "fnExactRetryWait", apart := false, narrowed := true }
def FnExactRetryWaitUptoSaid : Prop := fnExactRetryWaitUptoRow.holds Try.pinned (OpenSpec.upto fnExactRetryWaitSpec)

/-- 'laws.FnExactNextHealth', WHERE WHAT IT READS IS OF BULK AT MOST 1048576: true; the input reads as it did. -/
def fnExactNextHealthUptoRow : OpenClaim := { program := "ytfabioccnaooeaa", sum := "f32d80b9558f0f1d7f333616593e97a250d5671a3921c8ff473f82c064867fc0", func := "loop.example/g00734/laws.FnExactNextHealth", spec := "fnExactNextHealth", unfollowed := true, recurses := true, apart := false, narrowed := true }
def FnExactNextHealthUptoSaid : Prop := fnExactNextHealthUptoRow.holds Try.pinned (OpenSpec.upto fnExactNextHealthSpec)

end Rows
end Go.Proofs.Ytfabioccnaooeaa
