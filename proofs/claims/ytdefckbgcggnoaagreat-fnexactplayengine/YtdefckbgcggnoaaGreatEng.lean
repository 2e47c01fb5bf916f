/-
  THE ENGINE AS A MACHINE OF VALUES: its state, its events, what an act does and what an op does, as functions; the model and the program are both held against them.
-/
import Derived.Test.YtdefckbgcggnoaaGreatEngV
import Derived.Test.YtdefckbgcggnoaaGreatEngCnt
import Derived.Test.YtdefckbgcggnoaaGreatFleetTake
import Derived.Test.YtdefckbgcggnoaaGreatFleetAdd
import Derived.Test.YtdefckbgcggnoaaGreatFleetGo
import Derived.Test.YtdefckbgcggnoaaGreatRw
import Derived.Test.YtdefckbgcggnoaaGreatHl
import Derived.Test.YtdefckbgcggnoaaGreatBakI
import Derived.Test.YtdefckbgcggnoaaGreatCnt
namespace Go.Proofs.YtdefckbgcggnoaaGreat.Eng
open Go.Proofs.YtdefckbgcggnoaaGreat.Tick (inB tokB sinceV)
open Go.Proofs.YtdefckbgcggnoaaGreat.Pods
open Go.Proofs.YtdefckbgcggnoaaGreat.FleetV hiding goodB
open Go.Proofs.YtdefckbgcggnoaaGreat.EngV
open Go.Proofs.YtdefckbgcggnoaaGreat.CountI (cntF liveB goodB)
open Go.Proofs.YtdefckbgcggnoaaGreat.EngCnt (live good going)
open Go.Proofs.YtdefckbgcggnoaaGreat.Crew (goD addD takeD takeV)
set_option linter.unusedVariables false

abbrev Ev := Int × Int × Int
/-- An Engine and its events so far. -/
structure Run where
  e : Eng
  ev : List Ev

def waitS (s : Spc) (n : Int) : Int := Rw.waitV s.x0 s.x1 s.x2 s.x3 s.x4 s.x5 s.x6 s.x7 s.x8 s.x9 s.x10 n
def Run.tell (r : Run) (k a b : Int) : Run := { r with ev := r.ev ++ [(k, a, b)] }
def Run.fl (r : Run) : PList × Int := (r.e.ps, r.e.nx)
def Run.setFl (r : Run) (d : PList × Int) : Run := { r with e := { r.e with ps := d.1, nx := d.2 } }
/-- A pod is deleted. -/
def Run.drop (r : Run) (p : Pd) : Run := (r.setFl (goD r.fl p.1 r.e.now)).tell 1 p.1 p.2.1
def Run.tryOn (r : Run) : Run := { r with e := { r.e with tr := r.e.tr + 1, wt := Tick.addV r.e.now (waitS r.e.sp (r.e.tr + 1)) } }
def Run.lose (r : Run) (p : Pd) : Run := if mvB r.e.ph && decide (p.2.1 = r.e.tg) then (r.drop p).tryOn else r.drop p
def Run.loseAll (r : Run) : PList → Run
  | [] => r
  | p :: ps => Run.loseAll (if loP r.e.sp r.e.now p then r.lose p else r) ps
def Run.giveUp (r : Run) : Run := r.loseAll r.e.ps
/-- Who goes for too long is told once more. -/
def stuB (s : Spc) (now : Int) (p : Pd) : Bool := decide (p.2.2.1 = 4) && decide (s.x7 ≤ sinceV p.2.2.2.2 now)
def stuP (s : Spc) (now : Int) (p : Pd) : Pd := if stuB s now p then (p.1, p.2.1, p.2.2.1, p.2.2.2.1, now) else p
def stuE (s : Spc) (now : Int) (ps : PList) : List Ev := (ps.filter (stuB s now)).map fun p => (1, p.1, p.2.1)
def Run.tellStuck (r : Run) : Run := ⟨{ r.e with ps := r.e.ps.map (stuP r.e.sp r.e.now) }, r.ev ++ stuE r.e.sp r.e.now r.e.ps⟩
def Run.enter (r : Run) (ph : Int) : Run := ({ r with e := { r.e with ph := ph } } : Run).tell 2 ph r.e.tg
def Run.start (r : Run) (ph tg : Int) : Run := ({ r with e := { r.e with tg := tg, st := r.e.now, tr := 0, wt := 0 } } : Run).enter ph
def faultV (e : Eng) : Int := if e.sp.x4 < e.tr then 1 else if e.sp.x8 ≤ sinceV e.st e.now then 2 else 0
def Run.judge (r : Run) : Run :=
  if mvB r.e.ph && !decide (faultV r.e = 0) then (if r.e.ph = 1 then (r.tell 4 r.e.tg (faultV r.e)).start 2 r.e.gd else (r.tell 4 r.e.tg (faultV r.e)).enter 3) else r

def bakS (e : Eng) : Bool := BakI.bakedV e.sp.x0 e.sp.x1 e.sp.x2 e.sp.x3 e.sp.x4 e.sp.x5 e.sp.x6 e.sp.x7 e.sp.x8 e.sp.x9 e.sp.x10 e.tg e.now (e.ps, e.nx)
def limS (e : Eng) : Int := if e.ph = 1 then Cnt.limV e.sp.x0 e.sp.x1 e.sp.x2 e.sp.x3 e.sp.x4 e.sp.x5 e.sp.x6 e.sp.x7 e.sp.x8 e.sp.x9 e.sp.x10 (bakS e) else e.sp.x0
def plCr (e : Eng) : Int := Cnt.crV e.sp.x0 e.sp.x1 (live e false) (live e true) (going e) (limS e)
def plDr (e : Eng) : Int := Cnt.drV e.sp.x0 (live e true) (good e true) (limS e)
def plDa (e : Eng) : Int := Cnt.daV e.sp.x0 e.sp.x2 (good e false) (live e true) (good e true) (limS e)
def plDf (e : Eng) : Int := Cnt.dfV e.sp.x0 (live e false)
/-- The first n of those that are wanted are deleted; and how many are left. -/
def Run.dropN (r : Run) (f : Pd → Bool) (n : Int) : PList → Run × Int
  | [] => (r, n)
  | p :: ps => if decide (0 < n) && (!decide (p.2.2.1 = 4) && f p) then Run.dropN (r.drop p) f (n - 1) ps else Run.dropN r f n ps
def frB (e : Eng) (p : Pd) : Bool := decide (p.2.1 = e.tg)
def Run.dropF (r : Run) (f : Pd → Bool) (n : Int) : Run × Int := r.dropN f n r.e.ps
def Run.makeN (r : Run) : Nat → Run
  | 0 => r
  | n + 1 => if Crew.addV r.fl r.e.tg r.e.now = 0 then r else Run.makeN ((r.setFl (addD r.fl r.e.tg r.e.now)).tell 0 (Crew.addV r.fl r.e.tg r.e.now) r.e.tg) n
def Run.carry (r : Run) (cr dr da df : Int) : Run :=
  let s := r.e.sp
  let now := r.e.now
  let tg := r.e.tg
  let r1 := (r.dropF (fun p => !decide (p.2.1 = tg) && !avP s now p) dr).1
  let r2 := (r1.dropF (fun p => !decide (p.2.1 = tg) && avP s now p) da).1
  let q := r2.dropF (fun p => decide (p.2.1 = tg) && !avP s now p) df
  let r4 := (q.1.dropF (fun p => decide (p.2.1 = tg)) q.2).1
  if r4.e.wt ≤ r4.e.now then r4.makeN cr.toNat else r4
def Run.plan (r : Run) : Run := r.carry (plCr r.e) (plDr r.e) (plDa r.e) (plDf r.e)
def overE (e : Eng) : Bool := decide (live e false = e.sp.x0) && decide (good e false = e.sp.x0) && decide (live e true = 0) && decide (going e = 0)
def Run.makeGood (r : Run) : Run := if r.e.gd = r.e.tg then r else ({ r with e := { r.e with gd := r.e.tg } } : Run).tell 3 r.e.tg r.e.gd
def Run.over (r : Run) : Run :=
  if overE r.e then (if r.e.ph = 1 then r.makeGood.enter 0 else if r.e.ph = 2 then r.enter 3 else r) else r
def Run.act (r : Run) : Run :=
  if r.e.ph = 3 then r else
    let q := r.giveUp.tellStuck.judge
    if q.e.ph = 3 then q else q.plan.over

/-- An op: Kind, A, B, C. -/
abbrev Op4 := Int × Int × Int × Int
def reps (s : Spc) (b : Int) : Spc := if b = 0 then s else { s with x0 := b }
def Run.step (r : Run) (o : Op4) : Run × Int :=
  if o.1 = 0 then
    (if inB o.2.1 0 2000 then (({ r with e := { r.e with now := Tick.addV r.e.now o.2.1 } } : Run).act, 0) else (r, 1))
  else if o.1 = 1 then
    (if inB o.2.1 1 1000 && (reps r.e.sp o.2.2.1).ok then ((({ r with e := { r.e with sp := reps r.e.sp o.2.2.1 } } : Run).start 1 o.2.1).act, 0) else (r, 1))
  else if o.1 = 2 then
    (if takeV r.fl o.2.1 o.2.2.1 o.2.2.2 r.e.now = 0 then ((r.setFl (takeD r.fl o.2.1 o.2.2.1 o.2.2.2 r.e.now)).act, 0)
     else (r, if takeV r.fl o.2.1 o.2.2.1 o.2.2.2 r.e.now = 3 then 1 else 2))
  else (r, 1)
def Run.play (r : Run) : List Op4 → Run × List Int
  | [] => (r, [])
  | o :: os => ((r.step o).1.play os |>.1, (r.step o).2 :: ((r.step o).1.play os).2)
end Go.Proofs.YtdefckbgcggnoaaGreat.Eng
