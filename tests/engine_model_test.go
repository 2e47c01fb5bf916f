package tests

import (
	"math/rand"
	"slices"
	"testing"

	"loop.example/g00734/impl"
)

// shadow is the engine by the document's words, one after the other; it is held against the real one.
type shadow struct {
	impl.Engine
	events []impl.Event
	codes  []int
}

func shadowOf(s impl.Spec, rev int) *shadow {
	return &shadow{Engine: impl.Engine{Spec: s, Target: rev, Good: rev, Fleet: impl.Fleet{Next: 1}}}
}

// retryBy doubles once for each try behind the first.
func retryBy(s impl.Spec, tries int) int {
	wait := s.Base
	for i := 1; i < tries && wait < s.Cap; i++ {
		wait += wait
	}
	if wait > s.Cap {
		return s.Cap
	}
	return wait
}

func (m *shadow) tell(kind, a, b int) {
	m.events = append(m.events, impl.Event{Kind: kind, A: a, B: b})
}

func (m *shadow) rollsOrGoesBack() bool { return m.Phase == 1 || m.Phase == 2 }

func (m *shadow) available(p impl.Pod) bool { return availableBy(m.Spec, p, m.Now) }

func (m *shadow) send(i int) {
	p := &m.Fleet.Pods[i]
	p.State, p.Since = 4, m.Now
	m.tell(1, p.Id, p.Rev)
}

func (m *shadow) lostGo() {
	for i, p := range m.Fleet.Pods {
		if !lostBy(m.Spec, p, m.Now) {
			continue
		}
		m.send(i)
		if p.Rev == m.Target && m.rollsOrGoesBack() {
			m.Tries++
			m.WaitTill = min(m.Now+retryBy(m.Spec, m.Tries), top)
		}
	}
}

func (m *shadow) stuckAreTold() {
	for i, p := range m.Fleet.Pods {
		if p.State == 4 && m.Now-p.Since >= m.Spec.Stuck {
			m.send(i)
		}
	}
}

func (m *shadow) failsFor() int {
	if m.Tries > m.Spec.Retry {
		return 1
	}
	if m.Now-m.Started >= m.Spec.Deadline {
		return 2
	}
	return 0
}

func (m *shadow) setOut(phase, target int) {
	m.Phase, m.Target, m.Started, m.Tries, m.WaitTill = phase, target, m.Now, 0, 0
	m.tell(2, phase, target)
}

func (m *shadow) counts() (impl.Count, impl.Count, int) {
	fresh, _ := countBy(m.Spec, m.Fleet, m.Target, m.Now, false)
	old, _ := countBy(m.Spec, m.Fleet, m.Target, m.Now, true)
	return fresh, old, len(m.Fleet.Pods) - fresh.Live - old.Live
}

func (m *shadow) sendFirst(n int, fresh, available bool) int {
	for i, p := range m.Fleet.Pods {
		if n > 0 && p.State != 4 && (p.Rev == m.Target) == fresh && m.available(p) == available {
			m.send(i)
			n--
		}
	}
	return n
}

func (m *shadow) carryOut() {
	fresh, old, going := m.counts()
	limit := m.Spec.Replicas
	if m.Phase == 1 && m.Spec.Canary > 0 && !bakedBy(m.Spec, m.Fleet, m.Target, m.Now) {
		limit = m.Spec.Canary
	}
	p, _ := planBy(m.Spec, fresh, old, going, limit)
	m.sendFirst(p.Drop, false, false)
	m.sendFirst(p.DropAvail, false, true)
	m.sendFirst(m.sendFirst(p.DropFresh, true, false), true, true)
	for n := 0; n < p.Create && m.Now >= m.WaitTill && len(m.Fleet.Pods) < 30; n++ {
		m.tell(0, m.Fleet.Next, m.Target)
		m.Fleet.Pods = append(m.Fleet.Pods, impl.Pod{Id: m.Fleet.Next, Rev: m.Target, Since: m.Now})
		m.Fleet.Next++
	}
}

func (m *shadow) act() {
	if m.Phase == 3 {
		return
	}
	m.lostGo()
	m.stuckAreTold()
	if why := m.failsFor(); why > 0 && m.rollsOrGoesBack() {
		m.tell(4, m.Target, why)
		if m.Phase == 2 {
			m.Phase = 3
			m.tell(2, 3, m.Target)
			return
		}
		m.setOut(2, m.Good)
	}
	m.carryOut()
	fresh, old, going := m.counts()
	if !m.rollsOrGoesBack() || fresh != up(m.Spec.Replicas) || old.Live+going > 0 {
		return
	}
	if m.Phase == 1 && m.Good != m.Target {
		m.tell(3, m.Target, m.Good)
		m.Good = m.Target
	}
	m.Phase = map[int]int{1: 0, 2: 3}[m.Phase]
	m.tell(2, m.Phase, m.Target)
}

func (m *shadow) tick(o impl.Op) int {
	if o.A < 0 || o.A > 2000 {
		return 1
	}
	m.Now = min(m.Now+o.A, top)
	m.act()
	return 0
}

func (m *shadow) edit(o impl.Op) int {
	s := m.Spec
	if o.B != 0 {
		s.Replicas = o.B
	}
	if o.A < 1 || o.A > 1000 || !specOkBy(s) {
		return 1
	}
	m.Spec = s
	m.setOut(1, o.A)
	m.act()
	return 0
}

func (m *shadow) report(o impl.Op) int {
	if o.B < 1 || o.B > top || o.C < 1 || o.C > 4 {
		return 1
	}
	f, code := reportBy(m.Fleet, impl.Report{Pod: o.A, Gen: o.B, State: o.C}, m.Now)
	if code != impl.RepTaken {
		return 2
	}
	m.Fleet = f
	m.act()
	return 0
}

func (m *shadow) do(o impl.Op) {
	code := 1
	switch o.Kind {
	case 0:
		code = m.tick(o)
	case 1:
		code = m.edit(o)
	case 2:
		code = m.report(o)
	}
	m.codes = append(m.codes, code)
}

func sameEngines(a, b impl.Engine) bool {
	return sameFleets(a.Fleet, b.Fleet) && a.Spec == b.Spec && a.Now == b.Now && a.Phase == b.Phase && a.Target == b.Target &&
		a.Good == b.Good && a.Started == b.Started && a.Tries == b.Tries && a.WaitTill == b.WaitTill
}

// turnBy looks at one tick after the other for the first at which something is other than at the one ahead of it.
func turnBy(e impl.Engine, most int) int {
	for t := e.Now + 1; t <= min(e.Now+most, top) && e.Phase != 3; t++ {
		comes := func(from, after int) bool { return from+after == t }
		due := comes(e.WaitTill, 0) || e.Phase != 0 && comes(e.Started, e.Spec.Deadline)
		for _, p := range e.Fleet.Pods {
			due = due || availableBy(e.Spec, p, t) != availableBy(e.Spec, p, t-1) || lostBy(e.Spec, p, t) != lostBy(e.Spec, p, t-1)
			due = due || p.State == 4 && comes(p.Since, e.Spec.Stuck)
			due = due || e.Phase == 1 && p.State == 2 && p.Rev == e.Target && comes(p.Since, e.Spec.MinReady+e.Spec.Bake)
		}
		if due {
			return t
		}
	}
	return -1
}

// chanceEngineSpec has small waits, so that a play by chance comes to all of them.
func chanceEngineSpec(chance *rand.Rand) impl.Spec {
	s := impl.Spec{Replicas: 1 + chance.Intn(6), MinReady: chance.Intn(6), Retry: chance.Intn(5), Base: 1 + chance.Intn(3), Stuck: 2 + chance.Intn(20), Deadline: 5 + chance.Intn(120)}
	if chance.Intn(8) == 0 {
		s.Replicas = 12
	}
	s.Cap = s.Base + chance.Intn(12)
	s.Surge, s.Out = chance.Intn(s.Replicas+1), chance.Intn(s.Replicas+1)
	if s.Surge+s.Out == 0 {
		s.Surge = 1
	}
	if chance.Intn(2) == 0 {
		s.Canary, s.Bake = chance.Intn(s.Replicas+1), chance.Intn(9)
	}
	return s
}

func chanceTick(chance *rand.Rand, m *shadow) impl.Op {
	s := m.Spec
	by := []int{0, 0, 1, 1, 1, 1, 1, 2, 2, 3, s.MinReady, s.MinReady + s.Bake, s.Stuck - 1, s.Stuck}
	if chance.Intn(12) == 0 {
		by = []int{-1, 2000, 2001, s.Deadline, s.Deadline - 1, m.WaitTill - m.Now, m.Started + s.Deadline - m.Now, m.Started + s.Deadline - m.Now - 1}
	}
	return tickOp(by[chance.Intn(len(by))])
}

func chanceEdit(chance *rand.Rand, m *shadow) impl.Op {
	revs := []int{1, 2, 3, m.Target, m.Good, 1000}
	replicas := []int{0, 0, 0, m.Spec.Replicas, m.Spec.Replicas + 1, m.Spec.Replicas - 1, 1 + chance.Intn(12)}
	if chance.Intn(6) == 0 {
		revs, replicas = []int{0, -1, 1001, 2}, []int{0, -1, 13, 12}
	}
	return editOp(revs[chance.Intn(len(revs))], replicas[chance.Intn(len(replicas))])
}

// chanceReport says mostly what a pod may well be, of one that goes that it is gone; breaks is how many of ten break.
func chanceReport(chance *rand.Rand, m *shadow, breaks int) impl.Op {
	if len(m.Fleet.Pods) == 0 || chance.Intn(20) == 0 {
		return reportOp(chance.Intn(m.Fleet.Next+2)-1, chance.Intn(4)-1, chance.Intn(6))
	}
	p := m.Fleet.Pods[chance.Intn(len(m.Fleet.Pods))]
	state := 2
	switch x := chance.Intn(10); {
	case p.State == 4 && x < 8:
		state = 4
	case x < breaks:
		state = 3
	case x == 9:
		state = 1 + chance.Intn(4)
	}
	return reportOp(p.Id, p.Gen+1, state)
}

func chanceEngineOp(chance *rand.Rand, m *shadow, breaks int) impl.Op {
	switch x := chance.Intn(100); {
	case x < 35:
		return chanceTick(chance, m)
	case x < 41:
		return chanceEdit(chance, m)
	case x < 42:
		return impl.Op{Kind: []int{-1, 3, 9}[chance.Intn(3)], A: 1, B: 1, C: 2}
	}
	return chanceReport(chance, m, breaks)
}

// riseOps bring the pods of a new engine up to be available.
func riseOps(s impl.Spec) []impl.Op {
	ops := []impl.Op{tickOp(0)}
	for id := 1; id <= s.Replicas; id++ {
		ops = append(ops, reportOp(id, 1, impl.PodReady))
	}
	return append(ops, tickOp(s.MinReady))
}

// chancePlay is a play that the shadow was ahead in, so that its ops are about pods that there are; most begin risen.
func chancePlay(chance *rand.Rand, n int) (impl.Spec, int, []impl.Op, *shadow) {
	s, rev, breaks := chanceEngineSpec(chance), 1+chance.Intn(3), chance.Intn(5)
	m, ops := shadowOf(s, rev), []impl.Op{}
	if chance.Intn(4) > 0 {
		ops = append(riseOps(s), editOp(1+chance.Intn(3), 0))
	}
	for _, o := range ops {
		m.do(o)
	}
	for len(ops) < n {
		o := chanceEngineOp(chance, m, breaks)
		ops = append(ops, o)
		m.do(o)
	}
	return s, rev, ops, m
}

func TestPlaysByChance(t *testing.T) {
	chance, told, ends := rand.New(rand.NewSource(8)), map[impl.Event]int{}, map[int]int{}
	for range 1000 {
		s, rev, ops, want := chancePlay(chance, 20+chance.Intn(181))
		got, events, codes, ok := impl.PlayEngine(s, rev, ops)
		if !ok || !sameEngines(got, want.Engine) || !slices.Equal(events, want.events) || !slices.Equal(codes, want.codes) {
			t.Fatalf("%v, rev %d, %v:\n%v, want %v\n%v, want %v\n%v, want %v", s, rev, ops, got, want.Engine, events, want.events, codes, want.codes)
		}
		if !impl.EngineOk(got) {
			t.Fatalf("not EngineOk: %v", got)
		}
		ends[got.Phase]++
		for _, e := range events {
			if e.Kind < 2 || e.Kind == 3 {
				e.A, e.B = 0, 0
			} else if e.Kind == 2 {
				e.B = 0
			} else {
				e.A = 0
			}
			told[e]++
		}
	}
	// The plays are worth something only where they come to everything there is.
	for _, e := range []impl.Event{{Kind: 0}, {Kind: 1}, {Kind: 2}, {Kind: 2, A: 1}, {Kind: 2, A: 2}, {Kind: 2, A: 3}, {Kind: 3}, {Kind: 4, B: 1}, {Kind: 4, B: 2}} {
		if told[e] < 100 {
			t.Errorf("only %d events like %v", told[e], e)
		}
	}
	for phase := range 4 {
		if ends[phase] < 50 {
			t.Errorf("only %d plays end in Phase %d", ends[phase], phase)
		}
	}
}

// Behind each op there are no more pods than the greatest Ceiling that stood till then.
func TestNeverMorePodsThanTheGreatestCeiling(t *testing.T) {
	chance, full, rose := rand.New(rand.NewSource(88)), 0, 0
	for range 80 {
		s, rev, ops, _ := chancePlay(chance, 45)
		greatest := impl.Ceiling(s)
		for n := range len(ops) + 1 {
			e, _, _, ok := impl.PlayEngine(s, rev, ops[:n])
			if impl.Ceiling(e.Spec) > greatest {
				greatest = impl.Ceiling(e.Spec)
				rose++
			}
			if !ok || len(e.Fleet.Pods) > greatest {
				t.Fatalf("%v, %v: %d pods behind %d ops, at most %d should be", s, ops, len(e.Fleet.Pods), n, greatest)
			}
			if len(e.Fleet.Pods) == greatest {
				full++
			}
		}
	}
	if full < 500 || rose < 20 {
		t.Errorf("the ceiling was met %d times and rose %d times", full, rose)
	}
}

// availableAheadOf is how many are available when the act of an op begins.
func availableAheadOf(was, e impl.Engine, o impl.Op) int {
	f := was.Fleet
	if o.Kind == 2 {
		f, _ = impl.TakeReport(f, impl.Report{Pod: o.A, Gen: o.B, State: o.C}, e.Now)
	}
	return impl.AvailableOf(e.Spec, f, 0, e.Now)
}

// An act leaves as many available as the Floor, where there were not fewer ahead of it.
func TestNothingAvailableIsDroppedBelowTheFloor(t *testing.T) {
	chance, drops := rand.New(rand.NewSource(888)), 0
	for range 100 {
		s, rev, ops, _ := chancePlay(chance, 40)
		was, _ := impl.NewEngine(s, rev)
		for n, o := range ops {
			e, _, _, _ := impl.PlayEngine(s, rev, ops[:n+1])
			had, has := availableAheadOf(was, e, o), impl.AvailableOf(e.Spec, e.Fleet, 0, e.Now)
			if has < min(had, impl.Floor(e.Spec)) {
				t.Fatalf("%v, %v: %d available behind %d ops, %d ahead of the act", s, ops, has, n+1, had)
			}
			drops += had - has
			was = e
		}
	}
	if drops < 100 {
		t.Errorf("only %d that were available were dropped", drops)
	}
}

// checkQuiet lets time go by, up to the tick ahead of NextEngine: there must be no event, and nothing else than Now may change.
func checkQuiet(t *testing.T, s impl.Spec, rev int, ops []impl.Op) {
	t.Helper()
	ops = append(slices.Clone(ops), tickOp(0))
	e, events, _, _ := impl.PlayEngine(s, rev, ops)
	last := e.Now + 2*impl.MaxStep
	if next := impl.NextEngine(e); next != -1 {
		last = next - 1
	}
	ways := [][]impl.Op{{}, {}}
	for now := e.Now; now < last; now += impl.MaxStep {
		ways[0] = append(ways[0], tickOp(min(impl.MaxStep, last-now)))
	}
	for now := e.Now; now < last && len(ops)+len(ways[1]) < impl.MaxOps; now++ {
		ways[1] = append(ways[1], tickOp(1))
	}
	for _, way := range ways {
		later, all, _, ok := impl.PlayEngine(s, rev, append(slices.Clone(ops), way...))
		want := e
		for _, o := range way {
			want.Now += o.A
		}
		if !ok || len(all) != len(events) || !sameEngines(later, want) {
			t.Fatalf("%v, %v: ahead of %d there is\n%v, from\n%v: %v", s, ops, last+1, later, e, all[len(events):])
		}
	}
}

func TestNothingHappensAheadOfNextEngine(t *testing.T) {
	chance, waits := rand.New(rand.NewSource(10)), 0
	for range 500 {
		s, rev, ops, _ := chancePlay(chance, 1+chance.Intn(60))
		checkQuiet(t, s, rev, ops)
		e, _, _, _ := impl.PlayEngine(s, rev, ops)
		if next := impl.NextEngine(e); next > e.Now+1 {
			waits++
		}
	}
	if waits < 150 {
		t.Errorf("only %d plays had something to wait for", waits)
	}
}

func TestNextEngineByChance(t *testing.T) {
	chance, found := rand.New(rand.NewSource(1010)), 0
	for range 2500 {
		_, _, _, m := chancePlay(chance, 1+chance.Intn(60))
		got, want := impl.NextEngine(m.Engine), turnBy(m.Engine, 300)
		if got != want {
			t.Fatalf("NextEngine of %v = %d, want %d", m.Engine, got, want)
		}
		if got > 0 {
			found++
		}
	}
	if found < 1000 {
		t.Errorf("only %d had a next tick", found)
	}
}

func settledBy(e impl.Engine) bool {
	for _, p := range e.Fleet.Pods {
		if p.Rev != e.Target || !availableBy(e.Spec, p, e.Now) {
			return false
		}
	}
	return (e.Phase == 0 || e.Phase == 3) && len(e.Fleet.Pods) == e.Spec.Replicas
}

func TestSettledByChance(t *testing.T) {
	chance, settled := rand.New(rand.NewSource(1011)), 0
	for range 4000 {
		_, _, _, m := chancePlay(chance, 1+chance.Intn(60))
		got := impl.Settled(m.Engine)
		if got != settledBy(m.Engine) {
			t.Fatalf("Settled of %v = %v", m.Engine, got)
		}
		if got {
			settled++
		}
	}
	if settled < 20 {
		t.Errorf("only %d were settled", settled)
	}
}
