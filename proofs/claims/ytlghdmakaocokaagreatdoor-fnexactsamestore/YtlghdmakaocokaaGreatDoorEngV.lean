/-
  AN ENGINE AS A VALUE: its Spec's numbers, its own, its pods; what is asked of it; the new one.
-/
import Derived.Test.YtlghdmakaocokaaGreatDoorFleetV
import Derived.Test.YtlghdmakaocokaaGreatDoorHl
namespace Go.Proofs.YtlghdmakaocokaaGreatDoor.EngV
open Go.Proofs.YtlghdmakaocokaaGreatDoor.Tick (inB tokB sinceV)
open Go.Proofs.YtlghdmakaocokaaGreatDoor.Pods Go.Proofs.YtlghdmakaocokaaGreatDoor.FleetV
open Go.Proofs.YtlghdmakaocokaaGreatDoor.Sp (specB)
open Go.Proofs.YtlghdmakaocokaaGreatDoor.Hl (availB lostB nextV)
set_option linter.unusedVariables false

/-- A Spec's eleven numbers. -/
structure Spc where
  x0 : Int
  x1 : Int
  x2 : Int
  x3 : Int
  x4 : Int
  x5 : Int
  x6 : Int
  x7 : Int
  x8 : Int
  x9 : Int
  x10 : Int
def Spc.zero : Spc := ⟨0, 0, 0, 0, 0, 0, 0, 0, 0, 0, 0⟩
def Spc.ok (s : Spc) : Bool := specB s.x0 s.x1 s.x2 s.x3 s.x4 s.x5 s.x6 s.x7 s.x8 s.x9 s.x10
/-- An Engine. -/
structure Eng where
  sp : Spc
  now : Int
  ph : Int
  tg : Int
  gd : Int
  ps : PList
  nx : Int
  st : Int
  tr : Int
  wt : Int
/-- A new engine. -/
def newE (s : Spc) (rev : Int) : Eng := ⟨s, 0, 0, rev, rev, [], 1, 0, 0, 0⟩
def newB (s : Spc) (rev : Int) : Bool := s.ok && inB rev 1 1000
def zeroE : Eng := ⟨Spc.zero, 0, 0, 0, 0, [], 0, 0, 0, 0⟩
def avP (s : Spc) (now : Int) (p : Pd) : Bool := availB s.x0 s.x1 s.x2 s.x3 s.x4 s.x5 s.x6 s.x7 s.x8 s.x9 s.x10 p.2.2.1 p.2.2.2.2 now
def loP (s : Spc) (now : Int) (p : Pd) : Bool := lostB s.x0 s.x1 s.x2 s.x3 s.x4 s.x5 s.x6 s.x7 s.x8 s.x9 s.x10 p.2.2.1 p.2.2.2.2 now
def nxP (s : Spc) (p : Pd) : Int := nextV s.x0 s.x1 s.x2 s.x3 s.x4 s.x5 s.x6 s.x7 s.x8 s.x9 s.x10 p.2.2.1 p.2.2.2.2
def mvB (ph : Int) : Bool := decide (ph = 1) || decide (ph = 2)
/-- EngineOk. -/
def Eng.okB (e : Eng) : Bool := e.sp.ok && decide (FGood e.ps e.nx) && tokB e.now && tokB e.st && tokB e.wt && inB e.ph 0 3 && inB e.tg 1 1000 && inB e.gd 1 1000 && inB e.tr 0 200

/-- The cells. -/
def spL (s : Spc) : List Value := [.int .i64 s.x0, .int .i64 s.x1, .int .i64 s.x2, .int .i64 s.x3, .int .i64 s.x4, .int .i64 s.x5, .int .i64 s.x6, .int .i64 s.x7, .int .i64 s.x8, .int .i64 s.x9, .int .i64 s.x10]
def flL (A : Option Addr) (n c : Nat) (nx : Int) : List Value := [.slice A n c, .int .i64 nx]
def enL (e : Eng) (A : Option Addr) (n c : Nat) : List Value := [.int .i64 e.sp.x0, .int .i64 e.sp.x1, .int .i64 e.sp.x2, .int .i64 e.sp.x3, .int .i64 e.sp.x4, .int .i64 e.sp.x5, .int .i64 e.sp.x6, .int .i64 e.sp.x7, .int .i64 e.sp.x8, .int .i64 e.sp.x9, .int .i64 e.sp.x10,
  .int .i64 e.now, .int .i64 e.ph, .int .i64 e.tg, .int .i64 e.gd, .slice A n c, .int .i64 e.nx, .int .i64 e.st, .int .i64 e.tr, .int .i64 e.wt]
def spV (s : Spc) : Value := .agg (spL s).toArray
def flV (A : Option Addr) (n c : Nat) (nx : Int) : Value := .agg (flL A n c nx).toArray
def enV (e : Eng) (A : Option Addr) (n c : Nat) : Value := .agg (enL e A n c).toArray
theorem enL_sp (e : Eng) (A : Option Addr) (n c : Nat) : ((enL e A n c).drop 0).take (spL e.sp).length = spL e.sp := rfl
theorem enL_fl (e : Eng) (A : Option Addr) (n c : Nat) : ((enL e A n c).drop 15).take (flL A n c e.nx).length = flL A n c e.nx := rfl
theorem enL_all (e : Eng) (A : Option Addr) (n c : Nat) : ((enL e A n c).drop 0).take (enL e A n c).length = enL e A n c := rfl
theorem spL_all (s : Spc) : ((spL s).drop 0).take (spL s).length = spL s := rfl
theorem spL_one (s : Spc) : ∀ v ∈ spL s, v.oneCell' = true := by simp [spL, Value.oneCell']
theorem flL_one (A : Option Addr) (n c : Nat) (nx : Int) : ∀ v ∈ flL A n c nx, v.oneCell' = true := by simp [flL, Value.oneCell']
theorem enL_one (e : Eng) (A : Option Addr) (n c : Nat) : ∀ v ∈ enL e A n c, v.oneCell' = true := by simp [enL, Value.oneCell']
end Go.Proofs.YtlghdmakaocokaaGreatDoor.EngV
