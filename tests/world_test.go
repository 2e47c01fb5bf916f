package tests

import (
	"math"
	"slices"
	"strconv"
	"testing"

	"loop.example/g00734/impl"
)

func calm(slow, ticks int) impl.World { return impl.World{Slow: slow, Ticks: ticks} }

func worldWith(change func(w *impl.World)) impl.World {
	w := calm(2, 60)
	change(&w)
	return w
}

func changeTo(at, rev int) impl.Change { return impl.Change{At: at, Rev: rev} }

func goodWorlds() map[string]impl.World {
	return map[string]impl.World{
		"calm":         calm(2, 60),
		"the least":    calm(1, 0),
		"the greatest": {Slow: 10, BadRev: 1000, LoseEach: 20, Ticks: 300},
		"Slow 1":       worldWith(func(w *impl.World) { w.Slow = 1 }),
		"Slow 10":      worldWith(func(w *impl.World) { w.Slow = 10 }),
		"BadRev 1":     worldWith(func(w *impl.World) { w.BadRev = 1 }),
		"BadRev 1000":  worldWith(func(w *impl.World) { w.BadRev = impl.MaxRev }),
		"LoseEach 1":   worldWith(func(w *impl.World) { w.LoseEach = 1 }),
		"LoseEach 20":  worldWith(func(w *impl.World) { w.LoseEach = 20 }),
		"Ticks 0":      worldWith(func(w *impl.World) { w.Ticks = 0 }),
		"Ticks 1":      worldWith(func(w *impl.World) { w.Ticks = 1 }),
		"Ticks 300":    worldWith(func(w *impl.World) { w.Ticks = impl.MaxTicks }),
	}
}

func badWorlds() map[string]impl.World {
	list := map[string]impl.World{
		"the zero value": {},
		"Slow 0":         worldWith(func(w *impl.World) { w.Slow = 0 }),
		"Slow 11":        worldWith(func(w *impl.World) { w.Slow = 11 }),
		"BadRev -1":      worldWith(func(w *impl.World) { w.BadRev = -1 }),
		"BadRev 1001":    worldWith(func(w *impl.World) { w.BadRev = 1001 }),
		"LoseEach -1":    worldWith(func(w *impl.World) { w.LoseEach = -1 }),
		"LoseEach 21":    worldWith(func(w *impl.World) { w.LoseEach = 21 }),
		"Ticks -1":       worldWith(func(w *impl.World) { w.Ticks = -1 }),
		"Ticks 301":      worldWith(func(w *impl.World) { w.Ticks = 301 }),
	}
	for i := range 4 {
		for _, x := range []int{math.MinInt, math.MaxInt} {
			list["number "+strconv.Itoa(i)+" "+strconv.Itoa(x)] = worldWith(func(w *impl.World) {
				*[]*int{&w.Slow, &w.BadRev, &w.LoseEach, &w.Ticks}[i] = x
			})
		}
	}
	return list
}

func goodChanges() map[string][]impl.Change {
	ten := []impl.Change{}
	for i := range 10 {
		ten = append(ten, impl.Change{At: 5 * i, Rev: i + 1, Replicas: i + 1})
	}
	return map[string][]impl.Change{
		"none":              nil,
		"empty":             {},
		"one":               {changeTo(20, 2)},
		"At 0":              {changeTo(0, 2)},
		"At 300":            {changeTo(impl.MaxTicks, 2)},
		"At 0 and 300":      {changeTo(0, 2), changeTo(300, 3)},
		"Rev 1":             {changeTo(5, 1)},
		"Rev 1000":          {changeTo(5, impl.MaxRev)},
		"Replicas 1":        {{At: 5, Rev: 2, Replicas: 1}},
		"Replicas 12":       {{At: 5, Rev: 2, Replicas: impl.MaxReplicas}},
		"the same Ats":      {changeTo(7, 2), changeTo(7, 3), changeTo(7, 2)},
		"ten":               ten,
		"ten alike":         slices.Repeat([]impl.Change{changeTo(30, 2)}, 10),
		"ten at the end":    slices.Repeat([]impl.Change{changeTo(300, 1)}, 10),
		"ten of the zeroth": slices.Repeat([]impl.Change{changeTo(0, 1000)}, 10),
	}
}

func badChanges() map[string][]impl.Change {
	list := map[string][]impl.Change{
		"At -1":             {changeTo(-1, 2)},
		"At 301":            {changeTo(301, 2)},
		"Rev 0":             {changeTo(5, 0)},
		"Rev -1":            {changeTo(5, -1)},
		"Rev 1001":          {changeTo(5, 1001)},
		"Replicas -1":       {{At: 5, Rev: 2, Replicas: -1}},
		"Replicas 13":       {{At: 5, Rev: 2, Replicas: 13}},
		"the zero value":    {{}},
		"Ats that fall":     {changeTo(2, 1), changeTo(1, 1)},
		"the last falls":    {changeTo(0, 1), changeTo(9, 1), changeTo(9, 2), changeTo(8, 1)},
		"the second falls":  {changeTo(9, 1), changeTo(8, 1), changeTo(10, 1)},
		"falls from 300":    {changeTo(300, 1), changeTo(299, 1)},
		"the last is none":  {changeTo(5, 2), changeTo(6, 0)},
		"the first is none": {changeTo(-1, 2), changeTo(6, 1)},
		"eleven":            slices.Repeat([]impl.Change{changeTo(30, 2)}, 11),
		"many":              slices.Repeat([]impl.Change{changeTo(30, 2)}, 999),
		"eleven of none":    slices.Repeat([]impl.Change{{}}, 11),
		"eleven that rise":  append(goodChanges()["ten"], changeTo(300, 1)),
		"behind Ticks":      {changeTo(5, 2), changeTo(300, 1001)},
		"fall behind Ticks": {changeTo(299, 2), changeTo(298, 2)},
	}
	for i := range 3 {
		for _, x := range []int{math.MinInt, math.MaxInt} {
			c := impl.Change{At: 5, Rev: 2, Replicas: 3}
			*[]*int{&c.At, &c.Rev, &c.Replicas}[i] = x
			list["number "+strconv.Itoa(i)+" "+strconv.Itoa(x)] = []impl.Change{c}
		}
	}
	return list
}

func TestWorldConstants(t *testing.T) {
	if impl.MaxTicks != 300 {
		t.Errorf("MaxTicks %d", impl.MaxTicks)
	}
}

func TestWorldOk(t *testing.T) {
	for name, w := range goodWorlds() {
		if !impl.WorldOk(w) {
			t.Errorf("%s: is not ok", name)
		}
	}
	for name, w := range badWorlds() {
		if impl.WorldOk(w) {
			t.Errorf("%s: is ok", name)
		}
	}
}

func TestChangesOk(t *testing.T) {
	for name, list := range goodChanges() {
		if !impl.ChangesOk(list) {
			t.Errorf("%s: are not ok", name)
		}
	}
	for name, list := range badChanges() {
		if impl.ChangesOk(list) {
			t.Errorf("%s: are ok", name)
		}
	}
}

func wantNoRun(t *testing.T, name string, s impl.Spec, rev int, w impl.World, changes []impl.Change) {
	t.Helper()
	e, events, ok := impl.RunWorld(s, rev, w, changes)
	if ok || len(events) != 0 || !sameEngines(e, impl.Engine{}) {
		t.Errorf("%s: RunWorld %v, %v, %v", name, e, events, ok)
	}
	if got := impl.SettledAt(s, rev, w, changes); got != -1 {
		t.Errorf("%s: SettledAt %d", name, got)
	}
	for _, from := range []int{math.MinInt, -1, 0, 5, math.MaxInt} {
		if got := impl.LowestAvail(s, rev, w, changes, from); got != -1 {
			t.Errorf("%s: LowestAvail from %d: %d", name, from, got)
		}
	}
	if most, n, phase := impl.HighestPods(s, rev, w, changes), impl.CommandsIn(s, rev, w, changes), impl.EndPhase(s, rev, w, changes); most != -1 || n != -1 || phase != -1 {
		t.Errorf("%s: HighestPods %d, CommandsIn %d, EndPhase %d", name, most, n, phase)
	}
}

func TestWhatIsNoRun(t *testing.T) {
	few := goodChanges()["one"]
	for name, s := range badSpecs() {
		wantNoRun(t, name, s, 1, calm(2, 60), few)
		wantNoRun(t, name, s, 1, calm(2, 0), nil)
	}
	for _, rev := range []int{0, -1, 1001, math.MinInt, math.MaxInt} {
		wantNoRun(t, "rev "+strconv.Itoa(rev), impl.DefaultSpec(), rev, calm(2, 60), few)
		wantNoRun(t, "rev "+strconv.Itoa(rev), impl.DefaultSpec(), rev, calm(2, 0), nil)
	}
	for name, w := range badWorlds() {
		wantNoRun(t, name, impl.DefaultSpec(), 1, w, few)
		wantNoRun(t, name, impl.DefaultSpec(), 1, w, nil)
	}
	for name, list := range badChanges() {
		wantNoRun(t, name, impl.DefaultSpec(), 1, calm(2, 60), list)
		wantNoRun(t, name, impl.DefaultSpec(), 1, calm(2, 0), list)
	}
	wantNoRun(t, "nothing is so", impl.Spec{}, 0, impl.World{}, badChanges()["eleven of none"])
}

// story is what is told at each tick of a run, up to the last one of its world; ticks that it does not name tell nothing.
type story struct {
	spec    impl.Spec
	rev     int
	world   impl.World
	changes []impl.Change
	told    map[int][]impl.Event
	end     string
}

// until is the story as it stands when its world ends at that tick.
func (g story) until(tick int) story {
	g.world.Ticks = tick
	return g
}

func (g story) run(t *testing.T) (impl.Engine, []impl.Event) {
	t.Helper()
	e, events, ok := impl.RunWorld(g.spec, g.rev, g.world, g.changes)
	if !ok || e.Now != g.world.Ticks || !impl.EngineOk(e) {
		t.Fatalf("%v: %v, %v", g, e, ok)
	}
	return e, events
}

func checkStory(t *testing.T, g story) {
	t.Helper()
	ahead := 0
	for tick := range g.world.Ticks + 1 {
		_, events := g.until(tick).run(t)
		if got := events[ahead:]; !slices.Equal(got, g.told[tick]) {
			t.Fatalf("%v:\ntick %d tells %v, want %v", g, tick, got, g.told[tick])
		}
		ahead = len(events)
	}
	if e, _ := g.run(t); impl.EngineText(e) != g.end {
		t.Errorf("%v: ends as %q", g, impl.EngineText(e))
	}
	for tick := range g.told {
		if tick > g.world.Ticks {
			t.Errorf("tick %d of the story is not looked at", tick)
		}
	}
}

// rolledOut is a calm world around a rollout to 2: delete 1 and create 5 come at tick 22, and create 6 is given amid them.
func rolledOut() story {
	return story{spec: impl.DefaultSpec(), rev: 1, world: calm(2, 60), changes: []impl.Change{changeTo(20, 2)}, end: "idle to 2 good 2 pods 4 avail 4", told: map[int][]impl.Event{
		1:  told(made(1, 1), made(2, 1), made(3, 1), made(4, 1)),
		20: told(phaseIs(1, 2), dropped(1, 1), made(5, 2)),
		22: told(made(6, 2)),
		25: told(dropped(2, 1)),
		27: told(dropped(3, 1), made(7, 2)),
		29: told(made(8, 2)),
		32: told(dropped(4, 1)),
		34: told(goodIs(2, 1), phaseIs(0, 2)),
	}}
}

// wentBack is the same world where 2 is bad.
func wentBack() story {
	g := rolledOut()
	g.world.BadRev, g.end = 2, "degraded to 1 good 1 pods 4 avail 4"
	g.told = map[int][]impl.Event{
		1:  g.told[1],
		20: g.told[20],
		22: told(made(6, 2), dropped(5, 2)),
		24: told(dropped(6, 2)),
		28: told(made(7, 2), made(8, 2)),
		30: told(dropped(7, 2), dropped(8, 2), failed(2, 1), phaseIs(2, 1)),
		32: told(made(9, 1)),
		37: told(phaseIs(3, 1)),
	}
	return g
}

// allLost is a world in which no command ever comes.
func allLost() story {
	s := specWith(func(s *impl.Spec) { s.Replicas, s.Stuck = 2, 4 })
	return story{spec: s, rev: 9, world: impl.World{Slow: 1, LoseEach: 1, Ticks: 18}, end: "idle to 9 good 9 pods 3 avail 0", told: map[int][]impl.Event{
		1:  told(made(1, 9), made(2, 9)),
		5:  told(dropped(1, 9), dropped(2, 9), made(3, 9)),
		9:  told(dropped(3, 9), dropped(1, 9), dropped(2, 9)),
		13: told(dropped(1, 9), dropped(2, 9), dropped(3, 9)),
		17: told(dropped(1, 9), dropped(2, 9), dropped(3, 9)),
	}}
}

// someLost loses the third command, which is to create pod 3: its delete comes to a pod of which nothing was reported.
func someLost() story {
	s := specWith(func(s *impl.Spec) { s.Replicas, s.Surge, s.MinReady, s.Stuck = 3, 0, 0, 5 })
	return story{spec: s, rev: 1, world: impl.World{Slow: 2, LoseEach: 3, Ticks: 40}, end: "idle to 1 good 1 pods 3 avail 3", told: map[int][]impl.Event{
		1: told(made(1, 1), made(2, 1), made(3, 1)),
		6: told(dropped(3, 1)),
		8: told(made(4, 1)),
	}}
}

// toldTwice has a Stuck below Slow: a pod is given up ahead of its report, and deleted once more ahead of its end.
func toldTwice() story {
	s := specWith(func(s *impl.Spec) { s.Replicas, s.Out, s.MinReady, s.Stuck = 1, 0, 0, 2 })
	return story{spec: s, rev: 1, world: calm(5, 12), end: "idle to 1 good 1 pods 2 avail 0", told: map[int][]impl.Event{
		1:  told(made(1, 1)),
		3:  told(dropped(1, 1), made(2, 1)),
		5:  told(dropped(2, 1), dropped(1, 1)),
		7:  told(dropped(1, 1), dropped(2, 1)),
		8:  told(made(3, 1)),
		9:  told(dropped(2, 1)),
		10: told(dropped(3, 1), made(4, 1)),
		12: told(dropped(4, 1), dropped(3, 1)),
	}}
}

// changedAtBothEnds has two changes at tick 0, one at the last tick and one behind it.
func changedAtBothEnds() story {
	changes := []impl.Change{changeTo(0, 2), {At: 0, Rev: 3, Replicas: 2}, changeTo(9, 1), changeTo(10, 4)}
	return story{spec: impl.DefaultSpec(), rev: 1, world: calm(1, 9), changes: changes, end: "rolls to 1 good 3 pods 3 avail 1", told: map[int][]impl.Event{
		0: told(phaseIs(1, 2), made(1, 2), made(2, 2), made(3, 2), made(4, 2), phaseIs(1, 3), dropped(1, 2), dropped(2, 2), dropped(3, 2), dropped(4, 2)),
		1: told(made(5, 3), made(6, 3)),
		5: told(goodIs(3, 1), phaseIs(0, 3)),
		9: told(phaseIs(1, 1), dropped(5, 3), made(7, 1)),
	}}
}

// gonePods has all pods deleted at one tick: those that are to come are given amid that.
func gonePods() story {
	s := specWith(func(s *impl.Spec) { s.Replicas, s.Surge, s.Out, s.MinReady = 3, 0, 3, 0 })
	return story{spec: s, rev: 1, world: calm(10, 50), changes: []impl.Change{changeTo(20, 2)}, end: "idle to 2 good 2 pods 3 avail 3", told: map[int][]impl.Event{
		1:  told(made(1, 1), made(2, 1), made(3, 1)),
		20: told(phaseIs(1, 2), dropped(1, 1), dropped(2, 1), dropped(3, 1)),
		30: told(made(4, 2), made(5, 2), made(6, 2)),
		40: told(goodIs(2, 1), phaseIs(0, 2)),
	}}
}

// onlyCanary has one canary that bakes for 4 ticks, and a change that is refused: its Replicas are below Surge.
func onlyCanary() story {
	s := specWith(func(s *impl.Spec) { s.Replicas, s.Surge, s.Out, s.Canary, s.Bake, s.MinReady = 2, 2, 0, 1, 4, 1 })
	return story{spec: s, rev: 1, world: calm(1, 30), changes: []impl.Change{{At: 8, Rev: 3, Replicas: 1}, changeTo(9, 2), {At: 9, Rev: 3, Replicas: 1}}, end: "idle to 2 good 2 pods 2 avail 2", told: map[int][]impl.Event{
		1:  told(made(1, 1), made(2, 1)),
		9:  told(phaseIs(1, 2), made(3, 2)),
		11: told(dropped(1, 1)),
		15: told(made(4, 2)),
		17: told(dropped(2, 1)),
		18: told(goodIs(2, 1), phaseIs(0, 2)),
	}}
}

// tooSlow comes to its Deadline on its way there and on its way back, and what is still under way then comes all the same.
func tooSlow() story {
	s := specWith(func(s *impl.Spec) { s.Replicas, s.Surge, s.Out, s.MinReady, s.Deadline = 1, 0, 1, 0, 5 })
	return story{spec: s, rev: 1, world: calm(6, 35), changes: []impl.Change{changeTo(10, 2)}, end: "degraded to 1 good 1 pods 1 avail 1", told: map[int][]impl.Event{
		1:  told(made(1, 1)),
		10: told(phaseIs(1, 2), dropped(1, 1)),
		15: told(failed(2, 2), phaseIs(2, 1)),
		16: told(made(2, 1)),
		20: told(failed(1, 2), phaseIs(3, 1)),
	}}
}

func stories() map[string]story {
	return map[string]story{
		"rolledOut": rolledOut(), "wentBack": wentBack(), "allLost": allLost(), "someLost": someLost(), "toldTwice": toldTwice(),
		"changedAtBothEnds": changedAtBothEnds(), "gonePods": gonePods(), "onlyCanary": onlyCanary(), "tooSlow": tooSlow(),
	}
}

func TestStories(t *testing.T) {
	for name, g := range stories() {
		t.Run(name, func(t *testing.T) { checkStory(t, g) })
	}
}

func TestCommandsIn(t *testing.T) {
	for name, g := range stories() {
		n := 0
		for tick := range g.world.Ticks + 1 {
			n += len(commandsBy(g.told[tick]))
			if got := impl.CommandsIn(g.spec, g.rev, g.until(tick).world, g.changes); got != n {
				t.Errorf("%s, Ticks %d: %d, want %d", name, tick, got, n)
			}
		}
	}
}

// Between two of these ticks, and from the last on, the answer stays the same.
func checkByTicks(t *testing.T, g story, ask func(g story) int, want map[int]int) {
	t.Helper()
	now := 0
	for tick := range 101 {
		if x, ok := want[tick]; ok {
			now = x
		}
		if got := ask(g.until(tick)); got != now {
			t.Errorf("Ticks %d: %d, want %d", tick, got, now)
		}
	}
}

func endPhase(g story) int { return impl.EndPhase(g.spec, g.rev, g.world, g.changes) }

func settledAt(g story) int { return impl.SettledAt(g.spec, g.rev, g.world, g.changes) }

func highestPods(g story) int { return impl.HighestPods(g.spec, g.rev, g.world, g.changes) }

func TestEndPhase(t *testing.T) {
	checkByTicks(t, rolledOut(), endPhase, map[int]int{0: impl.PhaseIdle, 20: impl.PhaseRolls, 34: impl.PhaseIdle})
	checkByTicks(t, wentBack(), endPhase, map[int]int{0: impl.PhaseIdle, 20: impl.PhaseRolls, 30: impl.PhaseBack, 37: impl.PhaseDegraded})
	checkByTicks(t, changedAtBothEnds(), endPhase, map[int]int{0: impl.PhaseRolls, 5: impl.PhaseIdle, 9: impl.PhaseRolls, 16: impl.PhaseIdle})
	checkByTicks(t, tooSlow(), endPhase, map[int]int{0: impl.PhaseIdle, 10: impl.PhaseRolls, 15: impl.PhaseBack, 20: impl.PhaseDegraded})
	checkByTicks(t, allLost(), endPhase, map[int]int{0: impl.PhaseIdle})
}

// -1 where it is not settled at the end, as it was ahead or never was.
func TestSettledAt(t *testing.T) {
	checkByTicks(t, rolledOut(), settledAt, map[int]int{0: -1, 6: 6, 20: -1, 34: 34})
	checkByTicks(t, wentBack(), settledAt, map[int]int{0: -1, 6: 6, 20: -1, 37: 37})
	checkByTicks(t, someLost(), settledAt, map[int]int{0: -1, 10: 10})
	checkByTicks(t, gonePods(), settledAt, map[int]int{0: -1, 11: 11, 20: -1, 40: 40})
	checkByTicks(t, onlyCanary(), settledAt, map[int]int{0: -1, 3: 3, 9: -1, 18: 18})
	checkByTicks(t, allLost(), settledAt, map[int]int{0: -1})
	checkByTicks(t, toldTwice(), settledAt, map[int]int{0: -1})
	// Degraded at 20, but its pod is ready at 22 only, and available then.
	checkByTicks(t, tooSlow(), settledAt, map[int]int{0: -1, 7: 7, 10: -1, 22: 22})
	// An edit to what stands already is done at once: it is settled at each tick behind what happens there.
	same := rolledOut()
	same.changes = []impl.Change{changeTo(20, 1), {At: 30, Rev: 1, Replicas: 4}}
	checkByTicks(t, same, settledAt, map[int]int{0: -1, 6: 6})
}

func TestHighestPods(t *testing.T) {
	checkByTicks(t, rolledOut(), highestPods, map[int]int{0: 0, 1: 4, 20: 5})
	checkByTicks(t, allLost(), highestPods, map[int]int{0: 0, 1: 2, 5: 3})
	checkByTicks(t, gonePods(), highestPods, map[int]int{0: 0, 1: 3})
	checkByTicks(t, changedAtBothEnds(), highestPods, map[int]int{0: 4})
	checkByTicks(t, onlyCanary(), highestPods, map[int]int{0: 0, 1: 2, 9: 3})
}

// checkLowest has for some ticks how many are available from there on at the least, up to the next of these ticks and at it.
func checkLowest(t *testing.T, g story, want map[int]int) {
	t.Helper()
	for from, n := range want {
		if got := impl.LowestAvail(g.spec, g.rev, g.world, g.changes, from); got != n {
			t.Errorf("%v, from %d: %d, want %d", g, from, got, n)
		}
	}
}

func TestLowestAvail(t *testing.T) {
	checkLowest(t, rolledOut(), map[int]int{math.MinInt: 0, -1: 0, 0: 0, 5: 0, 6: 3, 20: 3, 33: 3, 34: 4, 59: 4, 60: 4, 61: -1, 301: -1, math.MaxInt: -1})
	checkLowest(t, rolledOut().until(19), map[int]int{math.MinInt: 0, 5: 0, 6: 4, 19: 4, 20: -1})
	checkLowest(t, rolledOut().until(0), map[int]int{math.MinInt: 0, -1: 0, 0: 0, 1: -1, math.MaxInt: -1})
	checkLowest(t, rolledOut().until(300), map[int]int{299: 4, 300: 4, 301: -1})
	checkLowest(t, wentBack(), map[int]int{5: 0, 6: 3, 36: 3, 37: 4, 60: 4, 61: -1})
	checkLowest(t, someLost(), map[int]int{2: 0, 3: 2, 9: 2, 10: 3, 40: 3, 41: -1})
	checkLowest(t, gonePods(), map[int]int{10: 0, 11: 0, 20: 0, 39: 0, 40: 3, 50: 3, 51: -1})
	checkLowest(t, allLost(), map[int]int{0: 0, 18: 0, 19: -1})
	// At 25 four are available until one of them goes: what counts is what stands behind the tick.
	checkLowest(t, rolledOut().until(25), map[int]int{6: 3, 25: 3})
	checkLowest(t, onlyCanary(), map[int]int{2: 0, 3: 2, 11: 2, 18: 2, 30: 2, 31: -1})
	checkLowest(t, tooSlow(), map[int]int{7: 0, 21: 0, 22: 1, 35: 1, 36: -1})
}

// A run has more ops than a play may have.
func TestRunsThatAreLong(t *testing.T) {
	s := specWith(func(s *impl.Spec) { s.Replicas, s.Surge, s.Out, s.MinReady, s.Stuck = 12, 12, 12, 0, 1 })
	ticks := impl.World{Slow: 10, LoseEach: 1, Ticks: impl.MaxTicks}
	// 24 pods from tick 2 on, 12 of which are made at 1, and from 3 on each is told to go at each tick.
	if got, want := impl.CommandsIn(s, 1, ticks, nil), 12+24+298*24; got != want {
		t.Errorf("%d commands, want %d", got, want)
	}
	e, _, ok := impl.RunWorld(impl.DefaultSpec(), 1, calm(1, impl.MaxTicks), []impl.Change{changeTo(300, 2)})
	if !ok || e.Now != 300 || impl.EngineText(e) != "rolls to 2 good 1 pods 5 avail 3" {
		t.Errorf("%v, %v", e, ok)
	}
}

func TestWorldBound(t *testing.T) {
	few := specWith(func(s *impl.Spec) { s.Retry, s.Cap, s.MinReady = 0, 2, 0 })
	for _, c := range []struct {
		name string
		s    impl.Spec
		w    impl.World
		want int
	}{
		{"default, Slow 2", impl.DefaultSpec(), calm(2, 200), 202},
		{"Slow 1", impl.DefaultSpec(), calm(1, 200), 2*(6*7+6) + 4*19},
		{"Slow 10", impl.DefaultSpec(), calm(10, 200), 2*(6*25+15) + 4*28},
		{"Retry 0", specWith(func(s *impl.Spec) { s.Retry = 0 }), calm(2, 200), 2*61 + 20},
		{"Retry 20", specWith(func(s *impl.Spec) { s.Retry = 20 }), calm(2, 200), 2*61 + 21*20},
		{"Bake 1", specWith(func(s *impl.Spec) { s.Bake = 1 }), calm(2, 200), 204},
		{"Bake 1000", specWith(func(s *impl.Spec) { s.Bake = 1000 }), calm(2, 200), 2202},
		{"Bake 1000 of a Canary", specWith(func(s *impl.Spec) { s.Bake, s.Canary = 1000, 4 }), calm(2, 200), 2202},
		{"MinReady 0", specWith(func(s *impl.Spec) { s.MinReady = 0 }), calm(2, 200), 2*(6*6+4) + 80},
		{"MinReady 1000", specWith(func(s *impl.Spec) { s.MinReady = 1000 }), calm(2, 200), 2*(6*1006+1004) + 80},
		{"Cap 2", specWith(func(s *impl.Spec) { s.Cap = 2 }), calm(2, 200), 2*61 + 4*6},
		{"Cap 10000", specWith(func(s *impl.Spec) { s.Cap = 10000 }), calm(2, 200), 2*61 + 4*10004},
		{"Base as Cap", specWith(func(s *impl.Spec) { s.Base = 16 }), calm(2, 200), 202},
		{"Stuck and Deadline", specWith(func(s *impl.Spec) { s.Stuck, s.Deadline = 1, 1 }), calm(2, 200), 202},
		{"Out alone", specWith(func(s *impl.Spec) { s.Surge = 0 }), calm(2, 200), 2*((impl.StepsNeeded(rolling(4, 0, 1))+2)*9+7) + 80},
		{"all at once", specWith(func(s *impl.Spec) { s.Surge, s.Out = 4, 4 }), calm(2, 200), 2*(3*9+7) + 80},
		{"little of all", few, calm(1, 0), 2*(6*4+3) + 5},
		{"another world", impl.DefaultSpec(), impl.World{Slow: 2, BadRev: 1000, LoseEach: 20, Ticks: 0}, 202},
		{"the least", leastSpec(), calm(1, 0), (impl.StepsNeeded(leastSpec())+2)*8 + 6 + 4},
	} {
		if got := impl.WorldBound(c.s, c.w); got != c.want {
			t.Errorf("%s: %d, want %d", c.name, got, c.want)
		}
	}
	for name, w := range goodWorlds() {
		for name2, s := range badSpecs() {
			if got := impl.WorldBound(s, w); got != -1 {
				t.Errorf("%s, %s: %d", name2, name, got)
			}
		}
	}
	for name, w := range badWorlds() {
		for name2, s := range goodSpecs() {
			if got := impl.WorldBound(s, w); got != -1 {
				t.Errorf("%s, %s: %d", name2, name, got)
			}
		}
	}
}

// Tries enough: the first pod of revision 2 is lost on its way, so a Retry of 0 leads back and one of 1 leads there.
func TestTriesEnough(t *testing.T) {
	s := specWith(func(s *impl.Spec) { s.Replicas, s.Out, s.MinReady, s.Stuck, s.Retry = 2, 0, 0, 5, 0 })
	g := story{spec: s, rev: 1, world: impl.World{Slow: 2, LoseEach: 3, Ticks: 60}, changes: []impl.Change{changeTo(10, 2)}, end: "degraded to 1 good 1 pods 2 avail 2", told: map[int][]impl.Event{
		1:  told(made(1, 1), made(2, 1)),
		10: told(phaseIs(1, 2), made(3, 2)),
		15: told(dropped(3, 2), failed(2, 1), phaseIs(2, 1)),
		17: told(phaseIs(3, 1)),
	}}
	checkStory(t, g)
	checkByTicks(t, g, settledAt, map[int]int{0: -1, 3: 3, 10: -1, 17: 17})
	g.spec.Retry, g.end, g.told = 1, "idle to 2 good 2 pods 2 avail 2", map[int][]impl.Event{
		1:  g.told[1],
		10: g.told[10],
		15: told(dropped(3, 2)),
		17: told(made(4, 2)),
		// The sixth command is lost, and told once more; so is the ninth.
		19: told(dropped(1, 1)),
		24: told(dropped(1, 1)),
		26: told(made(5, 2)),
		28: told(dropped(2, 1)),
		33: told(dropped(2, 1)),
		35: told(goodIs(2, 1), phaseIs(0, 2)),
	}
	checkStory(t, g)
	checkByTicks(t, g, settledAt, map[int]int{0: -1, 3: 3, 10: -1, 35: 35})
	checkLowest(t, g, map[int]int{3: 2, 60: 2})
}

// What is bad from the beginning is made again and again, and never settles; from there on what is good does.
func TestAWorldThatIsBadFromTheBeginning(t *testing.T) {
	g := rolledOut()
	g.rev, g.world.BadRev = 2, 2
	g.changes[0].Rev = 3
	e, events := g.run(t)
	if impl.EngineText(e) != "idle to 3 good 3 pods 4 avail 4" || slices.ContainsFunc(events, func(e impl.Event) bool { return e.Kind == 4 }) {
		t.Errorf("%v, %v", e, events)
	}
	g.changes = nil
	checkByTicks(t, g, settledAt, map[int]int{0: -1})
	checkByTicks(t, g, endPhase, map[int]int{0: impl.PhaseIdle})
}

func TestWorldsAreNotWrittenIntoNorShared(t *testing.T) {
	g := wentBack()
	changes := roomy(append(g.changes, changeTo(50, 3)), impl.Change{At: -7})
	kept := slices.Clone(changes[:cap(changes)])
	g.changes = changes
	e, events := g.run(t)
	e2, events2 := g.run(t)
	want, wantEvents := fleetCopy(e.Fleet), slices.Clone(events)
	scribblePods(e.Fleet.Pods)
	for i := range events[:cap(events)] {
		events[:cap(events)][i] = impl.Event{Kind: -1}
	}
	e3, events3 := g.run(t)
	for i, f := range []impl.Fleet{e2.Fleet, e3.Fleet} {
		if !sameFleets(f, want) || !slices.Equal([][]impl.Event{events2, events3}[i], wantEvents) {
			t.Errorf("%v, %v", f, want)
		}
	}
	settledAt(g)
	endPhase(g)
	highestPods(g)
	impl.LowestAvail(g.spec, g.rev, g.world, g.changes, 0)
	impl.CommandsIn(g.spec, g.rev, g.world, g.changes)
	impl.ChangesOk(changes)
	if !slices.Equal(changes[:cap(changes)], kept) {
		t.Errorf("%v", changes[:cap(changes)])
	}
}
