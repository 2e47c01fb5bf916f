package tests

import (
	"math"
	"math/rand"
	"slices"
	"testing"

	"loop.example/g00734/impl"
)

// ledger is the store by the document's words: its records stand in lists, and its engine is the shadow.
type ledger struct {
	spec       impl.Spec
	rev        int
	snap, tail []impl.Op
	m          *shadow
}

func ledgerOf(s impl.Spec, rev int) *ledger { return &ledger{spec: s, rev: rev, m: shadowOf(s, rev)} }

func (l *ledger) all() []impl.Op { return slices.Concat(l.snap, l.tail) }

func (l *ledger) store() impl.Store {
	j := synced(opBytes(l.tail...))
	j.Snap = opBytes(l.snap...)
	return impl.Store{Spec: l.spec, Rev: l.rev, Journal: j, Engine: l.m.Engine, Count: len(l.snap) + len(l.tail)}
}

// tried is another shadow, behind the op as well, and whether it did it.
func (l *ledger) tried(o impl.Op) (*shadow, bool) {
	m := &shadow{Engine: l.m.Engine}
	m.Fleet = fleetCopy(m.Fleet)
	m.do(o)
	return m, m.codes[0] == impl.OpDone
}

func (l *ledger) fits(o impl.Op) bool {
	return len(opBytes(l.tail...))+len(opBytes(o)) <= impl.MaxFile
}

func (l *ledger) do(o impl.Op) int {
	if !hasRecordBy(o) {
		return impl.StoreBad
	}
	m, done := l.tried(o)
	switch {
	case !done:
		return impl.StoreBad
	case len(l.all()) >= impl.MaxOps || !l.fits(o):
		return impl.StoreFull
	}
	l.m, l.tail = m, append(l.tail, o)
	return impl.StoreDone
}

func (l *ledger) compact() bool {
	if len(opBytes(l.all()...)) > impl.MaxFile {
		return false
	}
	l.snap, l.tail = l.all(), nil
	return true
}

func (l *ledger) crash(o impl.Op, keep int) bool {
	if !hasRecordBy(o) || !l.fits(o) {
		return false
	}
	if keep < len(opBytes(o)) {
		return true
	}
	m, done := l.tried(o)
	if !done || len(l.all()) >= impl.MaxOps {
		return false
	}
	l.m, l.tail = m, append(l.tail, o)
	return true
}

// chanceStoreOp is mostly an op of a play; wide of ten are so wide that the disk fills up, and some have no record.
func chanceStoreOp(chance *rand.Rand, m *shadow, breaks, wide int) impl.Op {
	o := chanceEngineOp(chance, m, breaks)
	if chance.Intn(10) < wide {
		o = impl.Op{A: chance.Intn(200), B: most - chance.Intn(9), C: most}
	}
	switch x := chance.Intn(50); {
	case x == 0:
		o.C = []int{-1, most + 1}[chance.Intn(2)]
	case x < 25 && o.Kind == 1:
		o.C = chance.Intn(most)
	}
	return o
}

// chanceStep does one thing to both, and answers what it was.
func chanceStep(t *testing.T, chance *rand.Rand, l *ledger, st impl.Store, breaks, wide int) (impl.Store, string) {
	t.Helper()
	o := chanceStoreOp(chance, l.m, breaks, wide)
	switch x := chance.Intn(40); {
	case x == 0:
		got, ok := impl.StoreCompact(st)
		if want := l.compact(); ok != want {
			t.Fatalf("StoreCompact %v", ok)
		}
		return got, map[bool]string{true: "compacted", false: "not compacted"}[ok]
	case x == 1:
		got, ok := impl.OpenStore(st.Spec, st.Rev, st.Journal)
		if !ok || !impl.SameStore(got, st) {
			t.Fatalf("OpenStore %v, %v", got, ok)
		}
		return got, "opened"
	case x < 9:
		keep, was := chance.Intn(22)-2, len(l.all())
		got, ok := impl.CrashStore(st, o, keep)
		if want := l.crash(o, keep); ok != want {
			t.Fatalf("CrashStore at %v, keep %d: %v", o, keep, ok)
		}
		if !ok {
			return got, "no crash"
		}
		return got, map[bool]string{true: "kept whole", false: "kept a beginning"}[len(l.all()) > was]
	}
	got, code := impl.StoreOp(st, o)
	if want := l.do(o); code != want {
		t.Fatalf("StoreOp of %v: %d, want %d", o, code, want)
	}
	return got, []string{"done", "bad", "full"}[code]
}

func TestStoresByChance(t *testing.T) {
	chance, seen := rand.New(rand.NewSource(10)), map[string]int{}
	for run := range 30 {
		s, rev, breaks, wide := chanceEngineSpec(chance), 1+chance.Intn(3), chance.Intn(5), run%2*8
		l := ledgerOf(s, rev)
		st, _ := impl.NewStore(s, rev)
		for n := range 350 {
			was := storeCopy(st)
			next, what := chanceStep(t, chance, l, st, breaks, wide)
			if !sameInAll(next, l.store()) || !sameInAll(st, was) {
				t.Fatalf("step %d, %s:\n%v, want\n%v", n, what, next, l.store())
			}
			if what == "no crash" || what == "bad" || what == "full" || what == "not compacted" {
				wantStore(t, what, next, was)
			}
			st = next
			seen[what]++
		}
		if st.Count == impl.MaxOps {
			seen["MaxOps"]++
		}
	}
	for what, least := range map[string]int{"compacted": 100, "not compacted": 10, "opened": 100, "no crash": 100, "kept whole": 100, "kept a beginning": 100, "done": 1000, "bad": 400, "full": 500, "MaxOps": 10} {
		if seen[what] < least {
			t.Errorf("only %d times %s: %v", seen[what], what, seen)
		}
	}
}

// What follows: behind a crash stands what stood ahead of the op or behind it, and nothing else.
func TestPlaysThatCrashByChance(t *testing.T) {
	chance, ends := rand.New(rand.NewSource(1010)), [2]int{}
	for range 60 {
		s, rev, ops, _ := chancePlay(chance, 20+chance.Intn(100))
		st, _ := impl.PlayStore(s, rev, ops[:len(ops)-1])
		o := ops[len(ops)-1]
		behind, code := impl.StoreOp(st, o)
		for keep := -1; keep <= 20; keep++ {
			got, ok := impl.CrashStore(st, o, keep)
			switch {
			case !ok && code == impl.StoreDone:
				t.Fatalf("%v, keep %d: refused", o, keep)
			case ok && sameInAll(got, st):
				ends[0]++
			case ok && code == impl.StoreDone && sameInAll(got, behind):
				ends[1]++
			case !sameInAll(got, st):
				t.Fatalf("%v, keep %d: %v is neither\n%v nor\n%v", o, keep, got, st, behind)
			}
		}
	}
	if ends[0] < 200 || ends[1] < 200 {
		t.Errorf("%v", ends)
	}
}

// chanceEngine is an EngineOk one that no play need ever have come to.
func chanceEngine(chance *rand.Rand) impl.Engine {
	s := chanceEngineSpec(chance)
	now := []int{0, 50, 50, 50, 999, top - 1, top}[chance.Intn(7)]
	near := func() int { return min(max(now+chance.Intn(60)-40, 0), top) }
	pods, next := []impl.Pod{}, 1
	for range chance.Intn(impl.MaxPods + 1) {
		next += chance.Intn(3)
		pods = append(pods, impl.Pod{Id: next, Rev: 1 + chance.Intn(3), State: chance.Intn(5), Gen: chance.Intn(3), Since: near()})
		next++
	}
	e := impl.Engine{Spec: s, Now: now, Phase: chance.Intn(4), Target: 1 + chance.Intn(3), Good: 1 + chance.Intn(4),
		Fleet: impl.Fleet{Pods: pods, Next: next + chance.Intn(3)}, Started: near(), Tries: chance.Intn(6), WaitTill: near()}
	if chance.Intn(3) == 0 {
		e.Fleet.Pods, e.Tries, e.Started = pods[:min(len(pods), s.Replicas)], 0, now
		for i := range e.Fleet.Pods {
			e.Fleet.Pods[i].Rev, e.Fleet.Pods[i].State = e.Target, 2
		}
	}
	return e
}

// An op is done by the engine as it stands, whatever Spec, Rev and journal beside it say.
func TestStoreOpOfEnginesByHand(t *testing.T) {
	chance, codes, phases := rand.New(rand.NewSource(101010)), [3]int{}, map[[2]int]int{}
	for range 20000 {
		e := chanceEngine(chance)
		if !impl.EngineOk(e) {
			t.Fatalf("not EngineOk: %v", e)
		}
		st := impl.Store{Spec: impl.Spec{Replicas: -chance.Intn(2)}, Rev: chance.Intn(3) - 1, Journal: synced([]byte{100}), Engine: e, Count: chance.Intn(impl.MaxOps)}
		m := &shadow{Engine: e}
		m.Fleet = fleetCopy(e.Fleet)
		o := chanceEngineOp(chance, m, chance.Intn(5))
		m.do(o)
		got, code := impl.StoreOp(st, o)
		if !hasRecordBy(o) || m.codes[0] != impl.OpDone {
			if code != impl.StoreBad || !sameInAll(got, st) {
				t.Fatalf("%v, %v: code %d, %v", e, o, code, got)
			}
			codes[m.codes[0]]++
			continue
		}
		want := storeCopy(st)
		want.Journal, want.Engine, want.Count = synced(append([]byte{100}, opBytes(o)...)), m.Engine, st.Count+1
		if code != impl.StoreDone || !sameInAll(got, want) {
			t.Fatalf("%v, %v: code %d\n%v, want\n%v", e, o, code, got, want)
		}
		codes[impl.OpDone]++
		phases[[2]int{e.Phase, got.Engine.Phase}]++
	}
	if slices.Min(codes[:]) < 200 || len(phases) < 14 {
		t.Errorf("%v, %v", codes, phases)
	}
}

// wantEngine says what the engine of a store is behind an op that it does.
func wantEngine(t *testing.T, name string, e impl.Engine, o impl.Op, want impl.Engine) {
	t.Helper()
	got, code := impl.StoreOp(impl.Store{Engine: e}, o)
	if code != impl.StoreDone || !sameEngines(got.Engine, want) || got.Count != 1 {
		t.Errorf("%s, %v: code %d\n%v, want\n%v", name, o, code, got.Engine, want)
	}
}

// Engines that are not EngineOk answer all the same: the code is what chapter 8 says of the op.
func TestStoreOpOfEnginesThatAreNotOk(t *testing.T) {
	for name, e := range badEngines() {
		st := impl.Store{Spec: impl.DefaultSpec(), Rev: 1, Engine: e}
		for _, o := range []impl.Op{tickOp(0), tickOp(2000), tickOp(2001), editOp(2, 0), editOp(2, 1), editOp(0, 1), reportOp(3, 2, 3), reportOp(3, 1, 3), reportOp(99, 1, 2), reportOp(3, 0, 3)} {
			want := impl.StoreBad
			switch {
			case o.Kind == 0 && o.A <= 2000:
				want = impl.StoreDone
			case o.Kind == 1 && o.A > 0:
				s := e.Spec
				if o.B != 0 {
					s.Replicas = o.B
				}
				if specOkBy(s) {
					want = impl.StoreDone
				}
			case o.Kind == 2:
				if _, code := impl.TakeReport(e.Fleet, impl.Report{Pod: o.A, Gen: o.B, State: o.C}, e.Now); code == impl.RepTaken {
					want = impl.StoreDone
				}
			}
			got, code := impl.StoreOp(st, o)
			if code != want || (code == impl.StoreDone) != (got.Count == 1) || code != impl.StoreDone && !sameInAll(got, st) {
				t.Errorf("%s: %v: code %d, want %d; %v", name, o, code, want, got)
			}
		}
	}
	zero := impl.Engine{}
	wantEngine(t, "the zero value", zero, tickOp(5), impl.Engine{Now: 5})
	// A Now that is no tick is none behind a tick either, and nothing is commanded there.
	lost := standing(func(e *impl.Engine) { e.Now, e.Phase = -5, impl.PhaseRolls; pod(e, impl.PodBroken, 3) })
	behind := standing(func(e *impl.Engine) { e.Now, e.Phase = -1, impl.PhaseRolls; pod(e, impl.PodBroken, 3) })
	wantEngine(t, "no Now", lost, tickOp(5), behind)
}

// In a Phase that is none it is the canary that holds back, as just PhaseBack and PhaseIdle go without.
func TestTheLimitInEachPhase(t *testing.T) {
	for phase, want := range map[int]int{impl.PhaseIdle: 2, impl.PhaseRolls: 1, impl.PhaseBack: 2, impl.PhaseDegraded: 0, -1: 1, 4: 1, 9: 1} {
		e := standing(func(e *impl.Engine) { e.Phase, e.Fleet.Pods, e.Started = phase, nil, 100 })
		behind := standing(func(e *impl.Engine) { e.Phase, e.Fleet.Pods, e.Started = phase, nil, 100 })
		for range want {
			behind.Fleet.Pods = append(behind.Fleet.Pods, impl.Pod{Id: behind.Fleet.Next, Rev: 2, Since: 100})
			behind.Fleet.Next++
		}
		wantEngine(t, "no pods", e, tickOp(0), behind)
	}
}

// A fleet whose numbers are used up has no room, and Now stops at MaxTick; no play comes to either.
func TestEnginesAtTheirEnds(t *testing.T) {
	last := func(pods int) impl.Engine {
		return standing(func(e *impl.Engine) {
			e.Spec.Replicas, e.Now, e.Fleet = 4, top-1, impl.Fleet{Next: top - 2}
			for range pods {
				e.Fleet.Pods = append(e.Fleet.Pods, impl.Pod{Id: e.Fleet.Next, Rev: 2, Since: top})
				e.Fleet.Next++
			}
		})
	}
	for _, by := range []int{1, 2, impl.MaxStep} {
		want := last(2)
		want.Now = top
		wantEngine(t, "two numbers left", last(0), tickOp(by), want)
		wantEngine(t, "none left", want, tickOp(by), want)
	}
}

// wildNumbers are about all ends of what a number may be.
func wildNumbers(chance *rand.Rand, into ...*int) {
	ends := []int{math.MinInt, math.MinInt + 1, -top, -1, 0, 1, 2, 3, 4, 12, 200, 1000, 2000, top - 1, top, top + 1, most, most + 1, math.MaxInt - 1, math.MaxInt}
	for _, x := range into {
		if chance.Intn(3) > 0 {
			*x = ends[chance.Intn(len(ends))]
		}
	}
}

func wildStore(chance *rand.Rand) impl.Store {
	st := impl.Store{Spec: chanceEngineSpec(chance), Rev: 1, Journal: synced(opBytes(fewOps()[:2]...)), Engine: chanceEngine(chance)}
	e := &st.Engine
	wildNumbers(chance, &e.Now, &e.Phase, &e.Target, &e.Good, &e.Started, &e.Tries, &e.WaitTill, &e.Fleet.Next, &st.Count)
	for i := range e.Fleet.Pods {
		p := &e.Fleet.Pods[i]
		wildNumbers(chance, &p.Id, &p.Rev, &p.State, &p.Gen, &p.Since)
	}
	switch chance.Intn(4) {
	case 0:
		wildNumbers(chance, specFields(&e.Spec)...)
	case 1:
		wildNumbers(chance, append(specFields(&st.Spec), &st.Rev, &st.Journal.Safe)...)
	}
	return st
}

// What is handed in may be anything: each function answers, and writes into nothing.
func TestStoresOfAnyNumbers(t *testing.T) {
	chance, codes := rand.New(rand.NewSource(11)), [3]int{}
	for range 20000 {
		st, keep, o := wildStore(chance), 0, impl.Op{Kind: chance.Intn(3), A: 1, B: 1, C: 2}
		wildNumbers(chance, &keep, &o.A, &o.B, &o.C)
		was := storeCopy(st)
		got, code := impl.StoreOp(st, o)
		crashed, ok := impl.CrashStore(st, o, keep)
		compact, ok2 := impl.StoreCompact(st)
		if code != impl.StoreDone && !sameInAll(got, st) || !ok && !sameInAll(crashed, st) || !ok2 && !sameInAll(compact, st) || !sameInAll(st, was) {
			t.Fatalf("%v, %v: %d, %v, %v", was, o, code, ok, ok2)
		}
		if !impl.SameStore(st, was) || ok && !impl.EngineOk(crashed.Engine) {
			t.Fatalf("%v, %v: %v", was, o, crashed)
		}
		codes[code]++
	}
	if slices.Min(codes[:]) < 500 {
		t.Errorf("%v", codes)
	}
}
