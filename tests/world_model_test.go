package tests

import (
	"math"
	"math/rand"
	"runtime"
	"slices"
	"sync"
	"testing"

	"loop.example/g00734/impl"
)

// globe is a world by the document's words: its engine is the shadow, and what is under way stands under the tick at which it comes.
type globe struct {
	m        *shadow
	w        impl.World
	comes    map[int][]impl.Op
	commands int
	stood    []impl.Engine
	// How often a command was lost, several came at one tick, and one was for a pod that was gone.
	lost, together, forgotten int
}

func reportOf(e impl.Event, bad int) impl.Op {
	if e.Kind == 1 {
		return reportOp(e.A, 2, 4)
	}
	if e.B == bad {
		return reportOp(e.A, 1, 3)
	}
	return reportOp(e.A, 1, 2)
}

func (g *globe) do(o impl.Op, now int) {
	ahead := len(g.m.events)
	g.m.do(o)
	for _, e := range g.m.events[ahead:] {
		if e.Kind > 1 {
			continue
		}
		g.commands++
		if g.w.LoseEach > 0 && g.commands%g.w.LoseEach == 0 {
			g.lost++
			continue
		}
		g.comes[now+g.w.Slow] = append(g.comes[now+g.w.Slow], reportOf(e, g.w.BadRev))
	}
}

func (g *globe) tick(now int, changes []impl.Change) {
	if now > 0 {
		g.do(tickOp(1), now)
	}
	for _, o := range g.comes[now] {
		g.do(o, now)
		if g.m.codes[len(g.m.codes)-1] != impl.OpDone {
			g.forgotten++
		}
	}
	if len(g.comes[now]) > 1 {
		g.together++
	}
	for _, c := range changes {
		if c.At == now {
			g.do(editOp(c.Rev, c.Replicas), now)
		}
	}
	e := g.m.Engine
	e.Fleet = fleetCopy(e.Fleet)
	g.stood = append(g.stood, e)
}

func globeOf(s impl.Spec, rev int, w impl.World, changes []impl.Change) *globe {
	g := &globe{m: shadowOf(s, rev), w: w, comes: map[int][]impl.Op{}}
	for now := 0; now <= w.Ticks; now++ {
		g.tick(now, changes)
	}
	return g
}

func (g *globe) settledAt() int {
	at := g.w.Ticks + 1
	for at > 0 && settledBy(g.stood[at-1]) {
		at--
	}
	if at > g.w.Ticks {
		return -1
	}
	return at
}

func (g *globe) lowest(from int) int {
	list := []int{}
	for now, e := range g.stood {
		if now >= from {
			list = append(list, markBy(e).Avail)
		}
	}
	if len(list) == 0 {
		return -1
	}
	return slices.Min(list)
}

func (g *globe) highest() int {
	most := 0
	for _, e := range g.stood {
		most = max(most, len(e.Fleet.Pods))
	}
	return most
}

// chanceWorldSpec has now and then a Stuck that is not above Slow, and a Deadline that is met.
func chanceWorldSpec(chance *rand.Rand, w impl.World) impl.Spec {
	s := chanceEngineSpec(chance)
	switch x := chance.Intn(5); {
	case x < 3:
		s.Stuck = w.Slow + 1 + chance.Intn(8)
	case x < 4:
		s.Stuck = w.Slow
	}
	if chance.Intn(3) > 0 {
		s.Deadline = 100000
	}
	return s
}

func chanceWorld(chance *rand.Rand, ticks int) impl.World {
	w := impl.World{Slow: 1 + chance.Intn(6), Ticks: chance.Intn(ticks + 1)}
	if chance.Intn(6) == 0 {
		w.Slow = 10
	}
	if chance.Intn(2) == 0 {
		w.LoseEach = 1 + chance.Intn(20)
	}
	if chance.Intn(2) == 0 {
		w.BadRev = 1 + chance.Intn(3)
	}
	return w
}

func chanceChanges(chance *rand.Rand, ticks int) []impl.Change {
	list, at := []impl.Change{}, 0
	for range chance.Intn(6) {
		if chance.Intn(3) > 0 {
			at += chance.Intn(ticks/3 + 1)
		}
		c := impl.Change{At: min(at, impl.MaxTicks), Rev: 1 + chance.Intn(4)}
		if chance.Intn(3) == 0 {
			c.Replicas = chance.Intn(13)
		}
		list = append(list, c)
	}
	return list
}

// checkRun holds all answers of one run against the globe's.
func checkRun(t *testing.T, s impl.Spec, rev int, w impl.World, changes []impl.Change, from int) *globe {
	t.Helper()
	g := globeOf(s, rev, w, changes)
	last := g.stood[len(g.stood)-1]
	e, events, ok := impl.RunWorld(s, rev, w, changes)
	if !ok || !sameEngines(e, last) || !slices.Equal(events, g.m.events) {
		t.Fatalf("%v, rev %d, %v, %v:\n%v, want %v\n%v, want %v", s, rev, w, changes, e, last, events, g.m.events)
	}
	got := []int{
		impl.SettledAt(s, rev, w, changes), impl.LowestAvail(s, rev, w, changes, from), impl.HighestPods(s, rev, w, changes),
		impl.CommandsIn(s, rev, w, changes), impl.EndPhase(s, rev, w, changes),
	}
	if want := []int{g.settledAt(), g.lowest(from), g.highest(), g.commands, last.Phase}; !slices.Equal(got, want) {
		t.Fatalf("%v, rev %d, %v, %v, from %d: %v, want %v", s, rev, w, changes, from, got, want)
	}
	return g
}

func TestWorldsByChance(t *testing.T) {
	chance, seen, phases := rand.New(rand.NewSource(11)), map[string]int{}, [4]int{}
	for range 400 {
		w := chanceWorld(chance, 120)
		s, rev, changes := chanceWorldSpec(chance, w), 1+chance.Intn(3), chanceChanges(chance, w.Ticks)
		g := checkRun(t, s, rev, w, changes, chance.Intn(w.Ticks+20)-10)
		phases[g.m.Phase]++
		for what, n := range map[string]int{"lost": g.lost, "together": g.together, "forgotten": g.forgotten, "settled": g.settledAt() + 1} {
			if n > 0 {
				seen[what]++
			}
		}
	}
	// The worlds are worth something only where they come to everything there is.
	for _, what := range []string{"lost", "together", "forgotten", "settled"} {
		if seen[what] < 50 || seen[what] > 390 {
			t.Errorf("%d of the worlds have some %s", seen[what], what)
		}
	}
	if slices.Min(phases[:]) < 10 {
		t.Errorf("they end in the phases %v", phases)
	}
}

// The specs of the other chapters' edges, in worlds of this one's.
func TestWorldsOfAllSpecs(t *testing.T) {
	for _, s := range goodSpecs() {
		for _, w := range []impl.World{calm(1, 30), calm(10, 60), {Slow: 3, BadRev: 1000, LoseEach: 2, Ticks: 60}} {
			checkRun(t, s, 1, w, []impl.Change{changeTo(20, 1000)}, 20)
		}
	}
	for _, w := range goodWorlds() {
		for _, changes := range goodChanges() {
			checkRun(t, impl.DefaultSpec(), 1, w, changes, 0)
		}
	}
}

// chanceCalm is a world without losses, where a Deadline is far and no pod is given up ahead of its report.
func chanceCalm(chance *rand.Rand) (impl.Spec, impl.World) {
	w := calm(1+chance.Intn(6), impl.MaxTicks)
	s := chanceEngineSpec(chance)
	s.Deadline, s.Stuck = 100000, w.Slow+1+chance.Intn(6)
	if chance.Intn(3) == 0 {
		s.Retry, s.Base = chance.Intn(10), 1+chance.Intn(s.Cap)
	}
	if chance.Intn(2) == 0 {
		w.BadRev = 2 + chance.Intn(2)
	}
	return s, w
}

// lastEdit is the revision that was wanted last, and the tick.
func lastEdit(rev int, changes []impl.Change) (int, int) {
	if len(changes) == 0 {
		return rev, 0
	}
	c := changes[len(changes)-1]
	return c.Rev, c.At
}

// wantAtTheEnd checks where a run that settled came to.
func wantAtTheEnd(t *testing.T, s impl.Spec, w impl.World, changes []impl.Change) {
	t.Helper()
	e, events, _ := impl.RunWorld(s, 1, w, changes)
	rev, _ := lastEdit(1, changes)
	switch {
	case rev != w.BadRev && (e.Phase != impl.PhaseIdle || e.Target != rev || e.Good != rev):
		t.Fatalf("%v, %v, %v: should be idle at %d: %v", s, w, changes, rev, e)
	case rev == w.BadRev && (e.Phase != impl.PhaseDegraded || e.Target == rev || e.Good != e.Target):
		t.Fatalf("%v, %v, %v: should be back from %d: %v", s, w, changes, rev, e)
	}
	good := 1
	for _, x := range events {
		if x.Kind == 3 {
			good = x.A
		}
	}
	if e.Good != good || !impl.Settled(e) || verdictOf(events) != "" {
		t.Fatalf("%v, %v, %v: %v, %d was good", s, w, changes, e, good)
	}
}

// Behind its last change a calm world settles within WorldBound, with one change, with many and with none.
func TestCalmWorldsSettleWithinTheBound(t *testing.T) {
	chance, there, back, most := rand.New(rand.NewSource(12)), 0, 0, 0
	for range 1200 {
		s, w := chanceCalm(chance)
		changes, at := []impl.Change{}, 0
		for range chance.Intn(4) {
			at += chance.Intn(25)
			changes = append(changes, changeTo(at, 1+chance.Intn(4)))
		}
		rev, last := lastEdit(1, changes)
		bound := impl.WorldBound(s, w)
		if last+bound > impl.MaxTicks {
			continue
		}
		w.Ticks = last + bound
		got := impl.SettledAt(s, 1, w, changes)
		if got < 0 {
			t.Fatalf("%v, %v, %v: not settled at %d", s, w, changes, w.Ticks)
		}
		wantAtTheEnd(t, s, w, changes)
		most = max(most, 100*(got-last)/bound)
		if rev == w.BadRev {
			back++
		} else {
			there++
		}
	}
	// The bound is no number out of reach.
	if there < 200 || back < 50 || most < 40 {
		t.Errorf("%d there, %d back, with up to %d of 100 of the bound", there, back, most)
	}
}

// From settled on there are never fewer available than Floor, nor more pods than Ceiling, whatever revisions are wanted.
func TestCalmWorldsKeepToTheFloor(t *testing.T) {
	chance, rolls, floors := rand.New(rand.NewSource(13)), 0, 0
	for range 250 {
		s, w := chanceCalm(chance)
		settled := impl.SettledAt(s, 1, w, nil)
		if settled != 1+w.Slow+s.MinReady {
			t.Fatalf("%v, %v: settled at %d", s, w, settled)
		}
		changes, at := []impl.Change{}, settled
		for range 1 + chance.Intn(4) {
			changes = append(changes, changeTo(at, 1+chance.Intn(4)))
			at += chance.Intn(40)
		}
		low, high := impl.LowestAvail(s, 1, w, changes, settled), impl.HighestPods(s, 1, w, changes)
		if low < s.Replicas-s.Out || high > s.Replicas+s.Surge {
			t.Fatalf("%v, %v, %v: %d available, %d pods", s, w, changes, low, high)
		}
		if high > s.Replicas {
			rolls++
		}
		if low == s.Replicas-s.Out && low < s.Replicas {
			floors++
		}
	}
	if rolls < 50 || floors < 50 {
		t.Errorf("%d have more pods than Replicas, %d come to their Floor", rolls, floors)
	}
}

// With other Replicas it is the least Floor and the greatest Ceiling that stood, and the bound is that of the Spec with the more Replicas.
func TestCalmWorldsWithOtherReplicas(t *testing.T) {
	chance, runs := rand.New(rand.NewSource(14)), 0
	for range 500 {
		s, w := chanceCalm(chance)
		s.MinReady, s.Retry, s.Bake = s.MinReady/2, s.Retry/2, s.Bake/2
		settled := impl.SettledAt(s, 1, w, nil)
		other := s
		other.Replicas = 1 + chance.Intn(12)
		if !impl.SpecOk(other) {
			continue
		}
		changes := []impl.Change{{At: settled, Rev: 1 + chance.Intn(4), Replicas: other.Replicas}}
		w.Ticks = settled + max(impl.WorldBound(s, w), impl.WorldBound(other, w))
		if w.Ticks > impl.MaxTicks {
			continue
		}
		runs++
		wantAtTheEnd(t, s, w, changes)
		low, high := impl.LowestAvail(s, 1, w, changes, settled), impl.HighestPods(s, 1, w, changes)
		if low < min(s.Replicas, other.Replicas)-s.Out || high > max(s.Replicas, other.Replicas)+s.Surge {
			t.Fatalf("%v, %v, %v: %d available, %d pods", s, w, changes, low, high)
		}
	}
	if runs < 100 {
		t.Errorf("only %d runs", runs)
	}
}

// With losses it settles too, where there are tries enough, and time.
func TestWorldsWithLossesSettle(t *testing.T) {
	chance, late, back := rand.New(rand.NewSource(15)), 0, 0
	for range 300 {
		s, w := chanceCalm(chance)
		w.Slow, w.LoseEach = 1+chance.Intn(4), 4+chance.Intn(17)
		s.Stuck, s.Retry, s.Base, s.Cap = w.Slow+1+chance.Intn(4), 20, 1, 1+chance.Intn(4)
		changes := []impl.Change{changeTo(chance.Intn(50), 1+chance.Intn(4))}
		got := impl.SettledAt(s, 1, w, changes)
		if got < 0 {
			e, _, _ := impl.RunWorld(s, 1, w, changes)
			t.Fatalf("%v, %v, %v: not settled: %v", s, w, changes, e)
		}
		wantAtTheEnd(t, s, w, changes)
		quiet := w
		quiet.LoseEach = 0
		if got > impl.SettledAt(s, 1, quiet, changes) {
			late++
		}
		if changes[0].Rev == w.BadRev {
			back++
		}
	}
	if late < 100 || back < 20 {
		t.Errorf("%d settle later than without losses, %d go back", late, back)
	}
}

// Many may run at once, and no goroutine of a run is left behind, of one that is refused neither.
func TestWorldsSideBySide(t *testing.T) {
	ahead := runtime.NumGoroutine()
	var running sync.WaitGroup
	for n := range 16 {
		running.Go(func() {
			g := []story{rolledOut(), wentBack()}[n%2]
			want := []int{34, 37}[n%2]
			for range 10 {
				if settledAt(g) != want || highestPods(g) != 5 || endPhase(g) != 3*(n%2) {
					t.Error("another answer")
					return
				}
				impl.RunWorld(g.spec, 0, g.world, g.changes)
				impl.RunWorld(g.spec, 1, impl.World{}, g.changes)
				impl.RunWorld(g.spec, 1, g.world, badChanges()["eleven"])
			}
		})
	}
	running.Wait()
	wantGoroutines(t, ahead)
}

// What is handed in may be anything: what is not as it is wanted is refused, and all else is answered.
func TestWorldsOfAnyNumbers(t *testing.T) {
	chance, runs := rand.New(rand.NewSource(16)), 0
	edge := func(into *int, list ...int) {
		if chance.Intn(5) == 0 {
			*into = list[chance.Intn(len(list))]
		}
	}
	for range 1500 {
		s, rev, w, changes := impl.DefaultSpec(), 1, calm(2, chance.Intn(12)), slices.Repeat([]impl.Change{changeTo(3, 2)}, chance.Intn(4))
		edge(&rev, 0, 1, 1000, 1001, math.MinInt, math.MaxInt)
		edge(&w.Slow, 0, 1, 10, 11, math.MinInt, math.MaxInt)
		edge(&w.BadRev, -1, 0, 1000, 1001, math.MinInt, math.MaxInt)
		edge(&w.LoseEach, -1, 0, 1, 20, 21, math.MinInt, math.MaxInt)
		edge(&w.Ticks, -1, 0, 300, 301, math.MinInt, math.MaxInt)
		fields := specFields(&s)
		edge(fields[chance.Intn(len(fields))], -1, 0, 1, 12, 13, math.MinInt, math.MaxInt)
		for i := range changes {
			edge(&changes[i].At, -1, 0, 300, 301, math.MinInt, math.MaxInt)
			edge(&changes[i].Rev, 0, 1, 1000, 1001, math.MinInt, math.MaxInt)
			edge(&changes[i].Replicas, -1, 0, 1, 12, 13, math.MinInt, math.MaxInt)
		}
		inside := func(x, least, greatest int) bool { return x >= least && x <= greatest }
		ok := specOkBy(s) && inside(rev, 1, 1000) && inside(w.Slow, 1, 10) && inside(w.BadRev, 0, 1000) && inside(w.LoseEach, 0, 20) && inside(w.Ticks, 0, 300)
		for i, c := range changes {
			ok = ok && inside(c.At, 0, 300) && inside(c.Rev, 1, 1000) && inside(c.Replicas, 0, 12) && (i == 0 || c.At >= changes[i-1].At)
		}
		if !ok {
			wantNoRun(t, "at the ends", s, rev, w, changes)
			continue
		}
		runs++
		checkRun(t, s, rev, w, changes, chance.Intn(10))
	}
	if runs < 100 || runs > 1400 {
		t.Errorf("%d of 1500 run", runs)
	}
}
