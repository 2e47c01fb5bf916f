package tests

import (
	"math"
	"slices"
	"strconv"
	"testing"

	"loop.example/g00734/impl"
)

func tickOp(by int) impl.Op { return impl.Op{Kind: 0, A: by} }

func editOp(rev, replicas int) impl.Op { return impl.Op{Kind: 1, A: rev, B: replicas} }

func reportOp(pod, gen, state int) impl.Op { return impl.Op{Kind: 2, A: pod, B: gen, C: state} }

func made(pod, rev int) impl.Event { return impl.Event{Kind: 0, A: pod, B: rev} }

func dropped(pod, rev int) impl.Event { return impl.Event{Kind: 1, A: pod, B: rev} }

func phaseIs(phase, target int) impl.Event { return impl.Event{Kind: 2, A: phase, B: target} }

func goodIs(rev, was int) impl.Event { return impl.Event{Kind: 3, A: rev, B: was} }

func failed(rev, why int) impl.Event { return impl.Event{Kind: 4, A: rev, B: why} }

// tape is a play that grows op by op; what each op tells is held against what it should.
type tape struct {
	t    *testing.T
	spec impl.Spec
	rev  int
	ops  []impl.Op
}

func newTape(t *testing.T, s impl.Spec, rev int) *tape { return &tape{t: t, spec: s, rev: rev} }

func (g *tape) play() (impl.Engine, []impl.Event, []int) {
	g.t.Helper()
	e, events, codes, ok := impl.PlayEngine(g.spec, g.rev, g.ops)
	if !ok || len(codes) != len(g.ops) || !impl.EngineOk(e) {
		g.t.Fatalf("%v: %v, %v, %v", g.ops, e, codes, ok)
	}
	return e, events, codes
}

func (g *tape) engine() impl.Engine {
	g.t.Helper()
	e, _, _ := g.play()
	return e
}

func (g *tape) do(o impl.Op, want ...impl.Event) *tape {
	g.t.Helper()
	_, ahead, _ := g.play()
	g.ops = append(g.ops, o)
	_, events, codes := g.play()
	if !slices.Equal(events[len(ahead):], want) || codes[len(codes)-1] != impl.OpDone {
		g.t.Fatalf("op %d, %v: %v, code %d, want %v", len(g.ops), o, events[len(ahead):], codes[len(codes)-1], want)
	}
	return g
}

// refuse checks that an op has this code and else does nothing.
func (g *tape) refuse(o impl.Op, code int) *tape {
	g.t.Helper()
	was, ahead, _ := g.play()
	g.ops = append(g.ops, o)
	e, events, codes := g.play()
	if codes[len(codes)-1] != code || len(events) != len(ahead) || !sameEngines(e, was) {
		g.t.Fatalf("op %d, %v: code %d, want %d; %v, from %v: %v", len(g.ops), o, codes[len(codes)-1], code, e, was, events[len(ahead):])
	}
	return g
}

// ready reports of these pods that they are ready, where nothing comes of it at once.
func (g *tape) ready(pods ...int) *tape {
	g.t.Helper()
	for _, id := range pods {
		g.do(reportOp(id, 1, impl.PodReady))
	}
	return g
}

func (g *tape) text(want string) *tape {
	g.t.Helper()
	if got := impl.EngineText(g.engine()); got != want {
		g.t.Fatalf("behind %d ops %q, want %q", len(g.ops), got, want)
	}
	return g
}

func (g *tape) next(want int) *tape {
	g.t.Helper()
	if got := impl.NextEngine(g.engine()); got != want {
		g.t.Fatalf("behind %d ops NextEngine %d, want %d", len(g.ops), got, want)
	}
	return g
}

func (g *tape) settled(want bool) *tape {
	g.t.Helper()
	if got := impl.Settled(g.engine()); got != want {
		g.t.Fatalf("behind %d ops Settled %v", len(g.ops), got)
	}
	return g
}

// waits holds Started, Tries and WaitTill against these.
func (g *tape) waits(started, tries, till int) *tape {
	g.t.Helper()
	if e := g.engine(); e.Started != started || e.Tries != tries || e.WaitTill != till {
		g.t.Fatalf("behind %d ops Started %d, Tries %d, WaitTill %d", len(g.ops), e.Started, e.Tries, e.WaitTill)
	}
	return g
}

// risen is an engine of rev 1 that has its pods available, since the tick MinReady.
func risen(t *testing.T, s impl.Spec) *tape {
	t.Helper()
	g, pods, ids := newTape(t, s, 1), []impl.Event{}, []int{}
	for id := 1; id <= s.Replicas; id++ {
		pods, ids = append(pods, made(id, 1)), append(ids, id)
	}
	return g.do(tickOp(0), pods...).ready(ids...).do(tickOp(s.MinReady)).settled(true).next(-1)
}

func TestNewEngine(t *testing.T) {
	for name, s := range goodSpecs() {
		for _, rev := range []int{1, 2, 999, 1000} {
			e, ok := impl.NewEngine(s, rev)
			want := impl.Engine{Spec: s, Target: rev, Good: rev, Fleet: impl.Fleet{Next: 1}}
			if !ok || !sameEngines(e, want) || !impl.EngineOk(e) || impl.Settled(e) || impl.NextEngine(e) != -1 {
				t.Errorf("%s, rev %d: %v, %v", name, rev, e, ok)
			}
			text := "idle to " + strconv.Itoa(rev) + " good " + strconv.Itoa(rev) + " pods 0 avail 0"
			if got := impl.EngineText(e); got != text {
				t.Errorf("%s, rev %d: %q", name, rev, got)
			}
			e, events, codes, ok := impl.PlayEngine(s, rev, nil)
			if !ok || !sameEngines(e, want) || len(events) != 0 || len(codes) != 0 {
				t.Errorf("%s, rev %d: a play of nothing is %v, %v, %v, %v", name, rev, e, events, codes, ok)
			}
		}
	}
}

func wantNoEngine(t *testing.T, name string, s impl.Spec, rev int) {
	t.Helper()
	if e, ok := impl.NewEngine(s, rev); ok || !sameEngines(e, impl.Engine{}) {
		t.Errorf("%s, rev %d: NewEngine %v, %v", name, rev, e, ok)
	}
	for _, ops := range [][]impl.Op{nil, {tickOp(1)}, {editOp(2, 4)}, {{Kind: 9}}} {
		if e, events, codes, ok := impl.PlayEngine(s, rev, ops); ok || !sameEngines(e, impl.Engine{}) || len(events) != 0 || len(codes) != 0 {
			t.Errorf("%s, rev %d: PlayEngine %v, %v, %v, %v", name, rev, e, events, codes, ok)
		}
	}
}

// A Deadline of 0, and all else that a spec must not be, is no engine's.
func TestNewEngineRefuses(t *testing.T) {
	for name, s := range badSpecs() {
		wantNoEngine(t, name, s, 1)
		wantNoEngine(t, name, s, 0)
	}
	for _, rev := range []int{0, -1, 1001, math.MinInt, math.MaxInt} {
		wantNoEngine(t, "default", impl.DefaultSpec(), rev)
	}
}

func TestEngineLimits(t *testing.T) {
	got := []int{impl.MaxOps, impl.PhaseIdle, impl.PhaseRolls, impl.PhaseBack, impl.PhaseDegraded, impl.OpDone, impl.OpBad, impl.OpIdle}
	if !slices.Equal(got, []int{200, 0, 1, 2, 3, 0, 1, 2}) {
		t.Errorf("%v", got)
	}
}

func TestARolloutThatComesToItsEnd(t *testing.T) {
	g := risen(t, impl.DefaultSpec()).text("idle to 1 good 1 pods 4 avail 4")
	g.do(editOp(2, 0), phaseIs(1, 2), dropped(1, 1), made(5, 2)).waits(3, 0, 0).text("rolls to 2 good 1 pods 5 avail 3").next(23)
	g.do(reportOp(1, 2, 4), made(6, 2)).ready(5, 6).settled(false).next(6)
	g.do(tickOp(2)).do(tickOp(1), dropped(2, 1), dropped(3, 1)).text("rolls to 2 good 1 pods 5 avail 3").next(26)
	g.do(reportOp(2, 2, 4), made(7, 2)).do(reportOp(3, 2, 4), made(8, 2)).ready(7)
	g.do(reportOp(8, 1, impl.PodRuns)).do(tickOp(1)).do(reportOp(8, 2, impl.PodReady)).next(9)
	g.do(tickOp(2), dropped(4, 1)).text("rolls to 2 good 1 pods 5 avail 3").next(10)
	g.do(tickOp(1)).text("rolls to 2 good 1 pods 5 avail 4").settled(false).next(29)
	// The last old one has still to be gone.
	g.do(reportOp(4, 2, 4), goodIs(2, 1), phaseIs(0, 2)).text("idle to 2 good 2 pods 4 avail 4").settled(true).next(-1)
	g.waits(3, 0, 0).do(tickOp(impl.MaxStep)).settled(true)
}

// What ends it may be a tick as well, when the last fresh one becomes available behind the last old one.
func TestARolloutThatATickEnds(t *testing.T) {
	g := risen(t, specWith(func(s *impl.Spec) { s.Surge, s.Out = 4, 4 }))
	g.do(editOp(2, 0), phaseIs(1, 2), dropped(1, 1), dropped(2, 1), dropped(3, 1), dropped(4, 1), made(5, 2), made(6, 2), made(7, 2), made(8, 2))
	for id := 1; id <= 4; id++ {
		g.do(reportOp(id, 2, 4))
	}
	g.ready(5, 6, 7, 8).do(tickOp(2)).text("rolls to 2 good 1 pods 4 avail 0").settled(false).next(6)
	g.do(tickOp(1), goodIs(2, 1), phaseIs(0, 2)).settled(true)
}

// Each act goes on: the report of what broke gives it up, finds too many tries and turns back, and makes what was good.
func TestARolloutThatGoesBack(t *testing.T) {
	g := risen(t, specWith(func(s *impl.Spec) { s.Retry = 0 }))
	g.do(editOp(2, 0), phaseIs(1, 2), dropped(1, 1), made(5, 2)).do(reportOp(1, 2, 4), made(6, 2)).do(tickOp(1))
	g.do(reportOp(6, 1, impl.PodBroken), dropped(6, 2), failed(2, 1), phaseIs(2, 1), dropped(5, 2))
	g.waits(4, 0, 0).text("back to 1 good 1 pods 5 avail 3").settled(false).next(24)
	g.do(reportOp(5, 1, 4), made(7, 1)).do(reportOp(6, 2, 4)).ready(7).next(7)
	g.do(tickOp(3), phaseIs(3, 1)).text("degraded to 1 good 1 pods 4 avail 4").settled(true).next(-1)
	g.waits(4, 0, 0)
}

func TestARolloutWithACanary(t *testing.T) {
	g := risen(t, canary(1, 1, 2))
	g.do(editOp(2, 0), phaseIs(1, 2), dropped(1, 1), made(5, 2)).do(reportOp(1, 2, 4), made(6, 2)).ready(5).next(6)
	g.do(tickOp(1)).ready(6).next(6)
	// Both are as many as the Canary: with one of them available an old one more may go.
	g.do(tickOp(2), dropped(2, 1)).next(7).do(reportOp(2, 2, 4)).do(tickOp(1)).text("rolls to 2 good 1 pods 4 avail 4").next(10)
	g.do(tickOp(2)).do(tickOp(1)).next(11)
	g.do(tickOp(1), dropped(3, 1), made(7, 2)).do(reportOp(3, 2, 4), made(8, 2)).ready(7, 8)
	g.do(tickOp(3), dropped(4, 1)).do(reportOp(4, 2, 4), goodIs(2, 1), phaseIs(0, 2)).settled(true)
}

// With all of them canaries the rollout is over as they are available, whether baked or not.
func TestACanaryOfAll(t *testing.T) {
	g := risen(t, specWith(func(s *impl.Spec) { s.Replicas, s.Canary, s.Bake = 1, 1, 9 }))
	g.do(editOp(2, 0), phaseIs(1, 2), dropped(1, 1), made(2, 2)).do(reportOp(1, 2, 4)).ready(2).next(6)
	g.do(tickOp(3), goodIs(2, 1), phaseIs(0, 2)).next(-1)
}

// The way back asks for no canary: it makes all at once that the Ceiling leaves room for.
func TestNoCanaryOnTheWayBackNorIdle(t *testing.T) {
	s := specWith(func(s *impl.Spec) { s.Surge, s.Out, s.Canary, s.Bake, s.Retry = 4, 4, 1, 50, 0 })
	g := risen(t, s)
	g.do(editOp(2, 0), phaseIs(1, 2), dropped(1, 1), made(5, 2))
	for id := 2; id <= 4; id++ {
		g.do(reportOp(id, 2, impl.PodBroken), dropped(id, 1))
	}
	g.do(reportOp(5, 1, impl.PodBroken), dropped(5, 2), failed(2, 1), phaseIs(2, 1), made(6, 1), made(7, 1), made(8, 1))
	g.do(reportOp(5, 2, 4), made(9, 1)).text("back to 1 good 1 pods 8 avail 0")
}

func TestLostPodsInEachPhase(t *testing.T) {
	// PhaseIdle: what is lost is made anew at once, without tries.
	g := risen(t, impl.DefaultSpec())
	g.do(reportOp(2, 2, impl.PodBroken), dropped(2, 1), made(5, 1)).waits(0, 0, 0).text("idle to 1 good 1 pods 5 avail 3").next(23)
	g.do(tickOp(19)).do(tickOp(1), dropped(5, 1), dropped(2, 1)).waits(0, 0, 0)
	g.do(reportOp(2, 3, 4), made(6, 1)).settled(false)
	// PhaseRolls: one of another Rev is no try, one of the Target is.
	g = risen(t, impl.DefaultSpec()).do(editOp(2, 0), phaseIs(1, 2), dropped(1, 1), made(5, 2))
	g.do(reportOp(2, 2, impl.PodBroken), dropped(2, 1)).waits(3, 0, 0)
	g.do(reportOp(5, 1, impl.PodBroken), dropped(5, 2)).waits(3, 1, 5).text("rolls to 2 good 1 pods 5 avail 2")
	// PhaseBack: the Target is the good one now, so one of it is a try, and one of the failed Rev is none.
	s := canary(2, 2, 2)
	s.Retry = 1
	g = risen(t, s).do(editOp(2, 0), phaseIs(1, 2), dropped(1, 1), dropped(2, 1), made(5, 2), made(6, 2))
	g.do(reportOp(1, 2, 4)).do(reportOp(2, 2, 4)).ready(6).do(tickOp(1))
	g.do(reportOp(5, 1, impl.PodBroken), dropped(5, 2)).waits(3, 1, 6).do(reportOp(5, 2, 4)).do(tickOp(2), made(7, 2))
	g.do(reportOp(7, 1, impl.PodBroken), dropped(7, 2), failed(2, 1), phaseIs(2, 1), dropped(6, 2), made(8, 1), made(9, 1)).waits(6, 0, 0)
	g.do(reportOp(8, 1, impl.PodBroken), dropped(8, 1)).waits(6, 1, 8)
}

// The four parts of one act that command something, each with its own: given up, told once more, turned back, planned.
func TestTheOrderOfAnAct(t *testing.T) {
	g := risen(t, specWith(func(s *impl.Spec) { s.Surge, s.Canary, s.Bake, s.Retry = 3, 2, 50, 0 }))
	g.do(editOp(2, 0), phaseIs(1, 2), dropped(1, 1), made(5, 2), made(6, 2)).ready(5)
	g.do(tickOp(3), dropped(2, 1)).do(tickOp(16)).do(reportOp(5, 2, impl.PodRuns)).next(23)
	g.do(tickOp(1), dropped(6, 2), dropped(1, 1), failed(2, 1), phaseIs(2, 1), dropped(5, 2), made(7, 1))
	g.waits(23, 0, 0).text("back to 1 good 1 pods 7 avail 2")
	want := []impl.Pod{{Id: 1, Rev: 1, State: 4, Gen: 1, Since: 23}, {Id: 2, Rev: 1, State: 4, Gen: 1, Since: 6}, {Id: 3, Rev: 1, State: 2, Gen: 1}, {Id: 4, Rev: 1, State: 2, Gen: 1},
		{Id: 5, Rev: 2, State: 4, Gen: 2, Since: 23}, {Id: 6, Rev: 2, State: 4, Since: 23}, {Id: 7, Rev: 1, Since: 23}}
	if e := g.engine(); !sameFleets(e.Fleet, impl.Fleet{Pods: want, Next: 8}) || e.Now != 23 {
		t.Errorf("%v", e)
	}
}

// What is given up is told ahead of what is told once more, whatever their Ids.
func TestTheLostAheadOfTheStuck(t *testing.T) {
	g := risen(t, impl.DefaultSpec()).do(editOp(2, 0), phaseIs(1, 2), dropped(1, 1), made(5, 2))
	g.do(tickOp(19)).do(tickOp(1), dropped(5, 2), dropped(1, 1)).waits(3, 1, 25).next(25)
}

// All pods that are lost at a tick are given up in one act, by Id, and each of the Target is a try.
func TestManyLostInOneAct(t *testing.T) {
	s := specWith(func(s *impl.Spec) { s.Surge, s.Out, s.Retry = 3, 0, 3 })
	g := risen(t, s).do(editOp(2, 0), phaseIs(1, 2), made(5, 2), made(6, 2), made(7, 2))
	g.do(tickOp(20), dropped(5, 2), dropped(6, 2), dropped(7, 2)).waits(3, 3, 31).text("rolls to 2 good 1 pods 7 avail 4").next(31)
	s.Retry = 2
	g = risen(t, s).do(editOp(2, 0), phaseIs(1, 2), made(5, 2), made(6, 2), made(7, 2))
	g.do(tickOp(20), dropped(5, 2), dropped(6, 2), dropped(7, 2), failed(2, 1), phaseIs(2, 1)).waits(23, 0, 0)
}

// surge1 lets one more be alive, and none be missing.
func surge1(retry, deadline int) impl.Spec {
	return specWith(func(s *impl.Spec) { s.Out, s.Retry, s.Deadline = 0, retry, deadline })
}

// Each try waits longer; with as many as Retry it goes on, with one more it fails.
func TestAsManyTriesAsRetryAndOneMore(t *testing.T) {
	g := risen(t, surge1(2, 200)).do(editOp(2, 0), phaseIs(1, 2), made(5, 2))
	g.do(reportOp(5, 1, impl.PodBroken), dropped(5, 2)).waits(3, 1, 5).do(reportOp(5, 2, 4)).next(5)
	g.do(tickOp(1)).do(tickOp(1), made(6, 2)).do(reportOp(6, 1, impl.PodBroken), dropped(6, 2)).waits(3, 2, 9).do(reportOp(6, 2, 4)).next(9)
	g.do(tickOp(3)).do(tickOp(1), made(7, 2)).text("rolls to 2 good 1 pods 5 avail 4")
	g.do(reportOp(7, 1, impl.PodBroken), dropped(7, 2), failed(2, 1), phaseIs(2, 1)).waits(9, 0, 0)
	g.do(reportOp(7, 2, 4), phaseIs(3, 1)).settled(true)
}

func TestTheDeadlineJustReached(t *testing.T) {
	g := risen(t, surge1(3, 10)).do(editOp(2, 0), phaseIs(1, 2), made(5, 2)).do(tickOp(9)).next(13).do(tickOp(0)).text("rolls to 2 good 1 pods 5 avail 4")
	g.do(tickOp(1), failed(2, 2), phaseIs(2, 1), dropped(5, 2)).waits(13, 0, 0)
	// Far behind it the pod is lost as well, which is one try and no fault.
	g = risen(t, surge1(3, 10)).do(editOp(2, 0), phaseIs(1, 2), made(5, 2)).do(tickOp(9))
	g.do(tickOp(30), dropped(5, 2), failed(2, 2), phaseIs(2, 1)).waits(42, 0, 0)
	// The least Deadline is behind the very next tick; PhaseIdle has none.
	g = risen(t, surge1(3, 1)).do(tickOp(impl.MaxStep)).settled(true).do(editOp(2, 0), phaseIs(1, 2), made(5, 2)).next(2004)
	g.do(tickOp(1), failed(2, 2), phaseIs(2, 1), dropped(5, 2)).next(2005)
}

// The way back has a Deadline of its own, counted from where it began.
func TestTheDeadlineOfTheWayBack(t *testing.T) {
	g := risen(t, surge1(3, 10)).do(editOp(2, 0), phaseIs(1, 2), made(5, 2)).do(tickOp(10), failed(2, 2), phaseIs(2, 1), dropped(5, 2)).waits(13, 0, 0).next(23)
	g.do(tickOp(9)).text("back to 1 good 1 pods 5 avail 4").next(23)
	g.do(tickOp(1), failed(1, 2), phaseIs(3, 1)).text("degraded to 1 good 1 pods 5 avail 4").settled(false).next(-1)
	// At 23 pod 7 is available and pod 5 might be dropped; but the way back ends first.
	g = risen(t, surge1(3, 10)).do(editOp(2, 0), phaseIs(1, 2), made(5, 2)).ready(5).do(tickOp(3), dropped(1, 1)).do(reportOp(1, 2, 4), made(6, 2))
	g.do(tickOp(7), failed(2, 2), phaseIs(2, 1), dropped(6, 2)).do(reportOp(6, 1, 4), made(7, 1)).do(tickOp(7)).ready(7)
	g.do(tickOp(3), failed(1, 2), phaseIs(3, 1)).text("degraded to 1 good 1 pods 5 avail 5").settled(false)
	g.do(editOp(1, 0), phaseIs(1, 1), dropped(5, 2)).do(reportOp(5, 2, 4), phaseIs(0, 1)).settled(true)
}

func TestTooManyTriesAndTooLateAtOnce(t *testing.T) {
	g := risen(t, surge1(0, 20)).do(editOp(2, 0), phaseIs(1, 2), made(5, 2)).do(tickOp(19))
	g.do(tickOp(1), dropped(5, 2), failed(2, 1), phaseIs(2, 1))
	// One try less than that it is just too late.
	g = risen(t, surge1(1, 20)).do(editOp(2, 0), phaseIs(1, 2), made(5, 2)).do(tickOp(19))
	g.do(tickOp(1), dropped(5, 2), failed(2, 2), phaseIs(2, 1)).waits(23, 0, 0)
}

// Where all the good ones still stand and none goes, the way back is over in the act that begins it.
func TestAWayBackThatIsOverAtOnce(t *testing.T) {
	s := surge1(3, 6)
	s.Base = 16
	g := risen(t, s).do(editOp(2, 0), phaseIs(1, 2), made(5, 2)).do(reportOp(5, 1, impl.PodBroken), dropped(5, 2)).waits(3, 1, 19)
	g.do(reportOp(5, 2, 4)).do(tickOp(5)).next(9).do(tickOp(1), failed(2, 2), phaseIs(2, 1), phaseIs(3, 1)).settled(true).waits(9, 0, 0)
}

// degradedTape comes to PhaseDegraded with pod 4 missing, 2 and 5 going, 3 available, and 1 broken or new.
func degradedTape(t *testing.T) *tape {
	t.Helper()
	g := risen(t, specWith(func(s *impl.Spec) { s.Replicas, s.Retry = 3, 0 }))
	g.do(editOp(2, 0), phaseIs(1, 2), dropped(1, 1), made(4, 2)).do(reportOp(1, 2, 4), made(5, 2))
	g.do(reportOp(4, 1, impl.PodBroken), dropped(4, 2), failed(2, 1), phaseIs(2, 1), dropped(5, 2)).do(reportOp(4, 2, 4), made(6, 1))
	return g.do(reportOp(6, 1, impl.PodBroken), dropped(6, 1), failed(1, 1), phaseIs(3, 1))
}

// A way back that fails too ends there: behind it there is room for another, and none is made.
func TestAWayBackThatFailsToo(t *testing.T) {
	g := degradedTape(t).text("degraded to 1 good 1 pods 4 avail 2").settled(false).next(-1).waits(3, 1, 5)
	g.do(reportOp(5, 1, 4)).text("degraded to 1 good 1 pods 3 avail 2")
	s := canary(1, 1, 2)
	s.Retry = 0
	h := risen(t, s).do(editOp(2, 0), phaseIs(1, 2), dropped(1, 1), made(5, 2)).do(reportOp(1, 2, 4), made(6, 2)).do(reportOp(2, 2, 3), dropped(2, 1))
	h.do(reportOp(5, 1, 3), dropped(5, 2), failed(2, 1), phaseIs(2, 1), dropped(6, 2)).do(reportOp(2, 3, 4), made(7, 1))
	h.do(reportOp(7, 1, 3), dropped(7, 1), failed(1, 1), phaseIs(3, 1)).do(reportOp(5, 2, 4)).text("degraded to 1 good 1 pods 4 avail 2")
}

// In PhaseDegraded time goes by and reports are taken, and that is all.
func TestNothingInPhaseDegraded(t *testing.T) {
	g := degradedTape(t).do(tickOp(0)).do(tickOp(20)).do(tickOp(500)).next(-1)
	g.do(reportOp(2, 2, impl.PodBroken)).do(reportOp(3, 2, impl.PodRuns)).text("degraded to 1 good 1 pods 4 avail 0")
	g.do(tickOp(impl.MaxStep)).refuse(reportOp(3, 2, 2), impl.OpIdle).refuse(reportOp(99, 2, 2), impl.OpIdle).refuse(tickOp(-1), impl.OpBad)
	g.do(reportOp(5, 1, 4)).do(reportOp(6, 2, 4)).waits(3, 1, 5).text("degraded to 1 good 1 pods 2 avail 0").settled(false)
	want := []impl.Pod{{Id: 2, Rev: 1, State: 3, Gen: 2, Since: 523}, {Id: 3, Rev: 1, State: 1, Gen: 2, Since: 523}}
	if e := g.engine(); !sameFleets(e.Fleet, impl.Fleet{Pods: want, Next: 7}) || e.Now != 2523 {
		t.Errorf("%v", e)
	}
}

// An edit leads out of it, and its act makes up for all that was left.
func TestAnEditOutOfPhaseDegraded(t *testing.T) {
	g := degradedTape(t).do(tickOp(20)).do(reportOp(2, 2, impl.PodBroken))
	g.do(editOp(3, 0), phaseIs(1, 3), dropped(2, 1), dropped(5, 2), dropped(6, 1)).waits(23, 0, 0).text("rolls to 3 good 1 pods 4 avail 1")
	g.do(reportOp(5, 1, 4), made(7, 3)).do(reportOp(6, 2, 4), made(8, 3))
	// The Target is the one that was good, so what broke of it is a try, and with Retry 0 it goes back once more.
	h := degradedTape(t).do(reportOp(2, 2, impl.PodBroken))
	h.do(editOp(1, 0), phaseIs(1, 1), dropped(2, 1), failed(1, 1), phaseIs(2, 1)).waits(3, 0, 0)
}

func TestAPodThatGoesIsToldOnceMore(t *testing.T) {
	g := risen(t, specWith(func(s *impl.Spec) { s.MinReady, s.Stuck = 0, 5 })).next(-1)
	g.do(reportOp(3, 2, impl.PodBroken), dropped(3, 1), made(5, 1)).do(reportOp(5, 1, impl.PodReady)).next(5)
	g.do(tickOp(4)).do(reportOp(3, 3, impl.PodReady)).next(5).do(tickOp(1), dropped(3, 1)).next(10)
	// What goes is told again Stuck ticks behind the last time, in whichever step time comes there.
	g.do(tickOp(4)).do(tickOp(3), dropped(3, 1)).next(17).do(tickOp(5), dropped(3, 1)).next(22)
	g.do(reportOp(3, 4, 4)).next(-1).do(tickOp(100)).settled(true)
}

// A try waits with what is made, not with what is dropped; a new way does not wait for the last one's tries.
func TestCreateIsHeldBackTillWaitTill(t *testing.T) {
	s := specWith(func(s *impl.Spec) { s.Base, s.Cap = 9, 9 })
	g := risen(t, s).do(editOp(2, 0), phaseIs(1, 2), dropped(1, 1), made(5, 2)).do(reportOp(1, 2, 4), made(6, 2)).ready(5)
	g.do(reportOp(6, 1, impl.PodBroken), dropped(6, 2)).waits(3, 1, 12).do(reportOp(6, 2, 4))
	g.do(tickOp(3), dropped(2, 1)).do(reportOp(2, 2, 4)).text("rolls to 2 good 1 pods 3 avail 3").next(12)
	g.do(tickOp(5)).do(tickOp(1), made(7, 2), made(8, 2))
	g.do(reportOp(7, 1, impl.PodBroken), dropped(7, 2)).waits(3, 2, 21).do(reportOp(7, 2, 4)).do(editOp(3, 0), phaseIs(1, 3), dropped(8, 2), made(9, 3)).waits(12, 0, 0)
}

// WaitTill stands behind the end of a rollout, and holds back what PhaseIdle makes anew.
func TestWaitTillInPhaseIdle(t *testing.T) {
	s := surge1(3, 10)
	s.Base = 16
	g := risen(t, s).do(editOp(2, 0), phaseIs(1, 2), made(5, 2)).do(tickOp(10), failed(2, 2), phaseIs(2, 1), dropped(5, 2)).do(reportOp(5, 1, 4), phaseIs(3, 1))
	g.do(reportOp(1, 2, impl.PodBroken)).do(editOp(1, 3), phaseIs(1, 1), dropped(1, 1)).waits(13, 1, 29)
	g.do(reportOp(1, 3, 4), phaseIs(0, 1)).waits(13, 1, 29).settled(true).next(29)
	g.do(reportOp(2, 2, impl.PodBroken), dropped(2, 1)).do(reportOp(2, 3, 4)).waits(13, 1, 29).next(29)
	g.do(tickOp(15)).text("idle to 1 good 1 pods 2 avail 2").do(tickOp(1), made(6, 1)).next(49)
}

// The greatest Ceiling is met, and holds Create back ahead of a fleet with no room, which no play comes to.
func TestTheGreatestFleet(t *testing.T) {
	for _, s := range smallSpecs(impl.MaxReplicas) {
		if impl.Ceiling(s) > 24 || impl.MaxPods <= 24 {
			t.Errorf("%v: Ceiling %d", s, impl.Ceiling(s))
		}
	}
	s := specWith(func(s *impl.Spec) { s.Replicas, s.Surge, s.Out = 12, 12, 0 })
	want := []impl.Event{phaseIs(1, 2)}
	for id := 13; id <= 24; id++ {
		want = append(want, made(id, 2))
	}
	g := risen(t, s).do(editOp(2, 0), want...).text("rolls to 2 good 1 pods 24 avail 12").do(tickOp(19))
	want = []impl.Event{}
	for id := 13; id <= 24; id++ {
		want = append(want, dropped(id, 2))
	}
	// All twelve are lost at once, which is more than Retry; what goes counts till it is gone.
	g.do(tickOp(1), append(want, failed(2, 1), phaseIs(2, 1))...).text("back to 1 good 1 pods 24 avail 12")
	g.do(editOp(3, 0), phaseIs(1, 3)).do(reportOp(20, 1, 4), made(25, 3)).text("rolls to 3 good 1 pods 24 avail 12")
}

func TestEditsToTheTargetThatStands(t *testing.T) {
	// What is good already does not become good.
	g := risen(t, impl.DefaultSpec()).do(tickOp(4)).do(editOp(1, 0), phaseIs(1, 1), phaseIs(0, 1)).waits(7, 0, 0).settled(true)
	g.do(editOp(1, 4), phaseIs(1, 1), phaseIs(0, 1))
	// Amid a rollout its time and its tries begin anew, and what waited waits no more.
	g = risen(t, surge1(1, 30)).do(editOp(2, 0), phaseIs(1, 2), made(5, 2)).do(reportOp(5, 1, impl.PodBroken), dropped(5, 2)).do(reportOp(5, 2, 4)).waits(3, 1, 5)
	g.do(tickOp(1)).do(editOp(2, 0), phaseIs(1, 2), made(6, 2)).waits(4, 0, 0)
	g.do(reportOp(6, 1, impl.PodBroken), dropped(6, 2)).waits(4, 1, 6).do(reportOp(6, 2, 4)).do(tickOp(29), made(7, 2)).next(34)
}

func TestAnEditToTheGoodOneAmidARollout(t *testing.T) {
	g := risen(t, impl.DefaultSpec()).do(editOp(2, 0), phaseIs(1, 2), dropped(1, 1), made(5, 2)).do(tickOp(2))
	g.do(editOp(1, 0), phaseIs(1, 1), dropped(5, 2)).waits(5, 0, 0).text("rolls to 1 good 1 pods 5 avail 3")
	g.do(reportOp(1, 2, 4), made(6, 1)).do(reportOp(5, 1, 4)).ready(6).do(tickOp(3), phaseIs(0, 1)).settled(true).text("idle to 1 good 1 pods 4 avail 4")
}

func TestEditsAmidAWay(t *testing.T) {
	// Amid a rollout to 2: what is good is still 1, and it is what the rollout of 3 goes back to.
	g := risen(t, surge1(0, 200)).do(editOp(2, 0), phaseIs(1, 2), made(5, 2)).ready(5).do(tickOp(3), dropped(1, 1)).do(reportOp(1, 2, 4), made(6, 2))
	g.do(editOp(3, 0), phaseIs(1, 3), dropped(6, 2)).text("rolls to 3 good 1 pods 5 avail 4").do(reportOp(6, 1, 4), made(7, 3))
	g.do(reportOp(7, 1, impl.PodBroken), dropped(7, 3), failed(3, 1), phaseIs(2, 1)).text("back to 1 good 1 pods 5 avail 4")
	// Amid the way back: the one that failed may be tried once more.
	g.do(editOp(2, 0), phaseIs(1, 2)).text("rolls to 2 good 1 pods 5 avail 4").do(reportOp(7, 2, 4), made(8, 2)).ready(8)
	g.do(tickOp(3), dropped(2, 1)).do(reportOp(2, 2, 4), made(9, 2)).ready(9).do(tickOp(3), dropped(3, 1)).do(reportOp(3, 2, 4), made(10, 2)).ready(10)
	g.do(tickOp(3), dropped(4, 1)).do(reportOp(4, 2, 4), goodIs(2, 1), phaseIs(0, 2)).settled(true)
}

// What goes back is the last one that was wholly rolled out.
func TestTheGoodOneIsTheLastThatWasRolledOut(t *testing.T) {
	g := newTape(t, specWith(func(s *impl.Spec) { s.Replicas, s.MinReady, s.Out, s.Retry = 1, 0, 0, 0 }), 7)
	g.do(tickOp(1), made(1, 7)).ready(1).do(editOp(8, 0), phaseIs(1, 8), made(2, 8)).do(reportOp(2, 1, 2), dropped(1, 7)).do(reportOp(1, 2, 4), goodIs(8, 7), phaseIs(0, 8))
	g.do(editOp(1000, 0), phaseIs(1, 1000), made(3, 1000)).do(reportOp(3, 1, 3), dropped(3, 1000), failed(1000, 1), phaseIs(2, 8))
	g.do(reportOp(3, 2, 4), phaseIs(3, 8)).text("degraded to 8 good 8 pods 1 avail 1").settled(true)
	g.do(editOp(8, 0), phaseIs(1, 8), phaseIs(0, 8)).text("idle to 8 good 8 pods 1 avail 1")
}

// Where nothing was ever available the rollout may still roll out what is good.
func TestAnEditAheadOfTheFirstPod(t *testing.T) {
	g := newTape(t, impl.DefaultSpec(), 1).do(editOp(2, 0), phaseIs(1, 2), made(1, 2), made(2, 2), made(3, 2), made(4, 2)).ready(1, 2, 3, 4)
	g.do(tickOp(3), goodIs(2, 1), phaseIs(0, 2)).settled(true)
}

func TestEditsOfReplicas(t *testing.T) {
	g := risen(t, impl.DefaultSpec())
	g.do(editOp(1, 6), phaseIs(1, 1), made(5, 1), made(6, 1)).ready(5)
	if e := g.engine(); e.Spec != specWith(func(s *impl.Spec) { s.Replicas = 6 }) {
		t.Errorf("the Spec is %v", e.Spec)
	}
	// With B 0 they stay as they are; with fewer those go first that are not available, and then by Id.
	g.do(editOp(1, 0), phaseIs(1, 1)).do(editOp(1, 2), phaseIs(1, 1), dropped(5, 1), dropped(6, 1), dropped(1, 1), dropped(2, 1))
	g.text("rolls to 1 good 1 pods 6 avail 2").do(reportOp(5, 2, 4)).do(reportOp(6, 1, 4)).do(reportOp(2, 2, 4))
	g.do(reportOp(1, 2, 4), phaseIs(0, 1)).settled(true)
	g.do(editOp(2, 1), phaseIs(1, 2), dropped(3, 1), dropped(4, 1)).text("rolls to 2 good 1 pods 2 avail 0")
	g.do(reportOp(3, 2, 4), made(7, 2)).do(reportOp(4, 2, 4)).ready(7).do(tickOp(3), goodIs(2, 1), phaseIs(0, 2)).settled(true)
}

// Of the old ones those go first that are not available, each kind by Id.
func TestTheOrderOfWhatIsDropped(t *testing.T) {
	g := risen(t, specWith(func(s *impl.Spec) { s.Replicas, s.Out = 6, 4 }))
	g.do(reportOp(5, 2, impl.PodRuns)).do(reportOp(3, 2, impl.PodRuns))
	g.do(editOp(2, 0), phaseIs(1, 2), dropped(3, 1), dropped(5, 1), dropped(1, 1), dropped(2, 1), made(7, 2))
	g.do(reportOp(6, 2, impl.PodRuns), dropped(6, 1)).text("rolls to 2 good 1 pods 7 avail 1")
}

func TestEditsThatAreRefused(t *testing.T) {
	s := specWith(func(s *impl.Spec) { s.Replicas, s.Surge, s.Out, s.Canary = 5, 2, 3, 4 })
	bad := []impl.Op{editOp(0, 0), editOp(-1, 0), editOp(1001, 0), editOp(math.MinInt, 5), editOp(math.MaxInt, 5), editOp(0, 5), editOp(1001, 13),
		editOp(2, 13), editOp(2, -1), editOp(2, -5), editOp(2, 3), editOp(2, 1), editOp(2, math.MinInt), editOp(2, math.MaxInt), editOp(1, 13)}
	g := risen(t, s)
	for _, o := range bad {
		g.refuse(o, impl.OpBad)
	}
	// At just Out and Surge it is the Canary that is too great.
	g.do(editOp(1000, 4), phaseIs(1, 1000), dropped(1, 1), dropped(2, 1), dropped(3, 1), dropped(4, 1), made(6, 1000))
	for _, o := range bad {
		g.refuse(o, impl.OpBad)
	}
	g.do(editOp(1, 12), phaseIs(1, 1), made(7, 1), made(8, 1), made(9, 1)).text("rolls to 1 good 1 pods 9 avail 1")
}

func TestTicks(t *testing.T) {
	g := newTape(t, specWith(func(s *impl.Spec) { s.Replicas = 1 }), 1)
	for _, by := range []int{-1, -2, -impl.MaxStep, impl.MaxStep + 1, impl.MaxTick, math.MinInt, math.MaxInt} {
		g.refuse(tickOp(by), impl.OpBad)
	}
	// A tick asks for no more than its A.
	g.do(impl.Op{Kind: 0, A: 0, B: -7, C: math.MinInt}, made(1, 1)).do(tickOp(0)).ready(1).text("idle to 1 good 1 pods 1 avail 0").next(3)
	g.do(tickOp(impl.MaxStep)).text("idle to 1 good 1 pods 1 avail 1").do(tickOp(impl.MaxStep)).do(tickOp(impl.MaxStep - 1))
	for _, by := range []int{-1, impl.MaxStep + 1, math.MinInt, math.MaxInt} {
		g.refuse(tickOp(by), impl.OpBad)
	}
	if e := g.engine(); e.Now != 3*impl.MaxStep-1 {
		t.Errorf("Now %d", e.Now)
	}
	// Nor has an edit a C.
	g.do(impl.Op{Kind: 1, A: 1, C: -1}, phaseIs(1, 1), phaseIs(0, 1))
}

func TestOpsOfAnotherKind(t *testing.T) {
	g := newTape(t, impl.DefaultSpec(), 1)
	refuseOthers := func() {
		for _, kind := range []int{-1, 3, 4, 9, 200, math.MinInt, math.MaxInt} {
			g.refuse(impl.Op{Kind: kind}, impl.OpBad).refuse(impl.Op{Kind: kind, A: 1, B: 4, C: 2}, impl.OpBad)
		}
	}
	refuseOthers()
	g.do(editOp(1, 3), phaseIs(1, 1), made(1, 1), made(2, 1), made(3, 1))
	refuseOthers()
}

func TestReportsThatAreRefused(t *testing.T) {
	g := newTape(t, impl.DefaultSpec(), 1).refuse(reportOp(1, 1, 2), impl.OpIdle).refuse(reportOp(1, 0, 2), impl.OpBad)
	g.do(tickOp(5), made(1, 1), made(2, 1), made(3, 1), made(4, 1)).do(reportOp(2, 5, 2))
	for _, o := range []impl.Op{reportOp(2, 5, 3), reportOp(2, 4, 4), reportOp(2, 1, 2), reportOp(0, 9, 2), reportOp(-1, 9, 2), reportOp(5, 1, 4), reportOp(math.MinInt, 1, 1), reportOp(math.MaxInt, top, 4)} {
		g.refuse(o, impl.OpIdle)
	}
	for _, o := range []impl.Op{reportOp(2, 0, 3), reportOp(2, -1, 3), reportOp(2, top+1, 3), reportOp(2, 6, 0), reportOp(2, 6, 5), reportOp(2, 6, -1), reportOp(9, 0, 2), reportOp(9, 6, 5), reportOp(2, math.MinInt, 2), reportOp(2, math.MaxInt, 2), reportOp(2, 6, math.MaxInt)} {
		g.refuse(o, impl.OpBad)
	}
	// A report that says nothing new is taken all the same, and no other counts behind the last of all.
	g.do(reportOp(2, 6, 2)).refuse(reportOp(2, 6, 3), impl.OpIdle).do(reportOp(2, top, 2)).refuse(reportOp(2, top, 4), impl.OpIdle)
	if p, ok := impl.FindPod(g.engine().Fleet, 2); !ok || p != (impl.Pod{Id: 2, Rev: 1, State: 2, Gen: top, Since: 5}) {
		t.Errorf("%v", p)
	}
	// A report is an op like others: it acts, and gives up what is lost since.
	h := newTape(t, impl.DefaultSpec(), 1).do(tickOp(0), made(1, 1), made(2, 1), made(3, 1), made(4, 1)).ready(1, 2, 3).do(reportOp(4, 1, 4), made(5, 1))
	h.do(reportOp(3, 2, 3), dropped(3, 1), made(6, 1))
}

func manyOps(n int, o impl.Op) []impl.Op { return slices.Repeat([]impl.Op{o}, n) }

func TestMaxOpsAndOneMore(t *testing.T) {
	for _, o := range []impl.Op{tickOp(1), tickOp(impl.MaxStep), tickOp(-1), editOp(2, 0), reportOp(1, 1, 2), {Kind: 9}} {
		for _, n := range []int{0, 1, impl.MaxOps - 1, impl.MaxOps} {
			e, _, codes, ok := impl.PlayEngine(impl.DefaultSpec(), 1, manyOps(n, o))
			if !ok || len(codes) != n || !impl.EngineOk(e) {
				t.Errorf("%d times %v: %v, %v, %v", n, o, e, codes, ok)
			}
		}
		for _, n := range []int{impl.MaxOps + 1, impl.MaxOps + 2, 5000} {
			e, events, codes, ok := impl.PlayEngine(impl.DefaultSpec(), 1, manyOps(n, o))
			if ok || len(codes) != 0 || len(events) != 0 || !sameEngines(e, impl.Engine{}) {
				t.Errorf("%d times %v: %v, %v, %v, %v", n, o, e, events, codes, ok)
			}
		}
	}
	e, events, codes, _ := impl.PlayEngine(impl.DefaultSpec(), 1, manyOps(impl.MaxOps, tickOp(impl.MaxStep)))
	if e.Now != impl.MaxOps*impl.MaxStep || len(events) < 4*impl.MaxOps || slices.Max(codes) != 0 {
		t.Errorf("%v, %d events", e, len(events))
	}
}

// The codes stand at the places of their ops.
func TestCodesAreInOrder(t *testing.T) {
	ops := []impl.Op{tickOp(1), {Kind: 5}, reportOp(1, 1, 2), reportOp(1, 1, 2), editOp(0, 0), editOp(2, 0), tickOp(-1), reportOp(9, 1, 1), reportOp(1, 0, 1), tickOp(0)}
	e, _, codes, ok := impl.PlayEngine(impl.DefaultSpec(), 1, ops)
	if !ok || !slices.Equal(codes, []int{0, 1, 0, 2, 1, 0, 1, 2, 1, 0}) || e.Target != 2 {
		t.Errorf("%v, %v", codes, e)
	}
}

// standing is an engine of 2 pods at 100 that nothing is to be waited for, but for what a change brings.
func standing(change func(e *impl.Engine)) impl.Engine {
	s := impl.Spec{Replicas: 2, Surge: 1, MinReady: 3, Retry: 3, Base: 2, Cap: 16, Stuck: 20, Deadline: 50, Canary: 1, Bake: 7}
	pods := []impl.Pod{{Id: 3, Rev: 2, State: impl.PodReady, Gen: 1, Since: 80}, {Id: 5, Rev: 2, State: impl.PodReady, Gen: 1, Since: 80}}
	e := impl.Engine{Spec: s, Now: 100, Target: 2, Good: 2, Fleet: impl.Fleet{Pods: pods, Next: 9}, Started: 40}
	change(&e)
	return e
}

func pod(e *impl.Engine, state, since int) *impl.Pod {
	p := &e.Fleet.Pods[1]
	p.State, p.Since = state, since
	return p
}

func TestNextEngineForEachReason(t *testing.T) {
	for _, c := range []struct {
		name   string
		change func(e *impl.Engine)
		// The answers in PhaseIdle, PhaseRolls, PhaseBack and PhaseDegraded; Started is 40, so that no Deadline is to come.
		want [4]int
	}{
		{"nothing", func(e *impl.Engine) {}, [4]int{-1, -1, -1, -1}},
		{"no pods", func(e *impl.Engine) { e.Fleet.Pods = nil }, [4]int{-1, -1, -1, -1}},
		{"a new pod", func(e *impl.Engine) { pod(e, impl.PodNew, 95) }, [4]int{115, 115, 115, -1}},
		{"a pod that runs", func(e *impl.Engine) { pod(e, impl.PodRuns, 81) }, [4]int{101, 101, 101, -1}},
		{"lost just now", func(e *impl.Engine) { pod(e, impl.PodRuns, 80) }, [4]int{-1, -1, -1, -1}},
		{"a broken pod", func(e *impl.Engine) { pod(e, impl.PodBroken, 100) }, [4]int{-1, -1, -1, -1}},
		{"a ready pod, of another Rev", func(e *impl.Engine) { pod(e, impl.PodReady, 99).Rev = 1 }, [4]int{102, 102, 102, -1}},
		{"a ready pod, of another Rev, available just now", func(e *impl.Engine) { pod(e, impl.PodReady, 97).Rev = 1 }, [4]int{-1, -1, -1, -1}},
		{"a ready pod of the Target", func(e *impl.Engine) { pod(e, impl.PodReady, 98) }, [4]int{101, 101, 101, -1}},
		{"a ready pod of the Target bakes", func(e *impl.Engine) { pod(e, impl.PodReady, 97) }, [4]int{-1, 107, -1, -1}},
		{"baked at the next tick", func(e *impl.Engine) { pod(e, impl.PodReady, 91) }, [4]int{-1, 101, -1, -1}},
		{"baked just now", func(e *impl.Engine) { pod(e, impl.PodReady, 90) }, [4]int{-1, -1, -1, -1}},
		{"a pod that goes", func(e *impl.Engine) { pod(e, impl.PodGoing, 100) }, [4]int{120, 120, 120, -1}},
		{"a pod that goes, of another Rev", func(e *impl.Engine) { pod(e, impl.PodGoing, 81).Rev = 7 }, [4]int{101, 101, 101, -1}},
		{"told once more just now", func(e *impl.Engine) { pod(e, impl.PodGoing, 80) }, [4]int{-1, -1, -1, -1}},
		{"told once more long ago", func(e *impl.Engine) { pod(e, impl.PodGoing, 3) }, [4]int{-1, -1, -1, -1}},
		{"WaitTill", func(e *impl.Engine) { e.WaitTill = 130 }, [4]int{130, 130, 130, -1}},
		{"WaitTill is the next tick", func(e *impl.Engine) { e.WaitTill = 101 }, [4]int{101, 101, 101, -1}},
		{"WaitTill is just now", func(e *impl.Engine) { e.WaitTill = 100 }, [4]int{-1, -1, -1, -1}},
		{"Deadline", func(e *impl.Engine) { e.Started = 90 }, [4]int{-1, 140, 140, -1}},
		{"Deadline at the next tick", func(e *impl.Engine) { e.Started = 51 }, [4]int{-1, 101, 101, -1}},
		{"Deadline just now", func(e *impl.Engine) { e.Started = 50 }, [4]int{-1, -1, -1, -1}},
		{"the least of all", func(e *impl.Engine) { pod(e, impl.PodGoing, 99); e.WaitTill, e.Started = 117, 68 }, [4]int{117, 117, 117, -1}},
		{"what is just now is no reason, but the next is", func(e *impl.Engine) { pod(e, impl.PodGoing, 80); e.WaitTill, e.Started = 100, 69 }, [4]int{-1, 119, 119, -1}},
		{"at MaxTick", func(e *impl.Engine) { pod(e, impl.PodNew, top-20); e.WaitTill, e.Now, e.Started = top, top-1, 0 }, [4]int{top, top, top, -1}},
		{"above MaxTick", func(e *impl.Engine) { pod(e, impl.PodGoing, top-19); e.Now, e.Started = top-1, top-49 }, [4]int{-1, -1, -1, -1}},
		{"Deadline at MaxTick", func(e *impl.Engine) { e.Now, e.Started = top-1, top-50 }, [4]int{-1, top, top, -1}},
		{"bakes till MaxTick", func(e *impl.Engine) { pod(e, impl.PodReady, top-10); e.Now, e.Started = top-1, 0 }, [4]int{-1, top, -1, -1}},
		{"bakes till behind it", func(e *impl.Engine) { pod(e, impl.PodReady, top-9); e.Now, e.Started = top-1, 0 }, [4]int{-1, -1, -1, -1}},
		{"Now is MaxTick", func(e *impl.Engine) { pod(e, impl.PodNew, top); e.Now, e.Started, e.WaitTill = top, top, top }, [4]int{-1, -1, -1, -1}},
		{"Now is MaxTick, one goes", func(e *impl.Engine) { pod(e, impl.PodGoing, top-20); e.Now = top }, [4]int{-1, -1, -1, -1}},
	} {
		for phase, want := range c.want {
			e := standing(c.change)
			e.Phase = phase
			if got := impl.NextEngine(e); got != want || !impl.EngineOk(e) {
				t.Errorf("%s: NextEngine in Phase %d = %d, want %d", c.name, phase, got, want)
			}
		}
	}
}

// badEngines break one by one what the document says of an engine.
func badEngines() map[string]impl.Engine {
	list := map[string]impl.Engine{"the zero value": {}}
	for name, s := range badSpecs() {
		list["Spec: "+name] = standing(func(e *impl.Engine) { e.Spec = s })
	}
	for name, f := range badFleets() {
		list["Fleet: "+name] = standing(func(e *impl.Engine) { e.Fleet = f })
	}
	for _, x := range noTicks() {
		list["Now "+strconv.Itoa(x)] = standing(func(e *impl.Engine) { e.Now = x })
		list["Started "+strconv.Itoa(x)] = standing(func(e *impl.Engine) { e.Started = x })
		list["WaitTill "+strconv.Itoa(x)] = standing(func(e *impl.Engine) { e.WaitTill = x })
	}
	for _, x := range []int{-1, 4, math.MinInt, math.MaxInt} {
		list["Phase "+strconv.Itoa(x)] = standing(func(e *impl.Engine) { e.Phase = x })
	}
	for _, x := range []int{0, -1, 1001, math.MinInt, math.MaxInt} {
		list["Target "+strconv.Itoa(x)] = standing(func(e *impl.Engine) { e.Target = x })
		list["Good "+strconv.Itoa(x)] = standing(func(e *impl.Engine) { e.Good = x })
	}
	for _, x := range []int{-1, 201, math.MinInt, math.MaxInt} {
		list["Tries "+strconv.Itoa(x)] = standing(func(e *impl.Engine) { e.Tries = x })
	}
	return list
}

func goodEngines() map[string]impl.Engine {
	list := map[string]impl.Engine{}
	for name, s := range goodSpecs() {
		list["Spec: "+name] = standing(func(e *impl.Engine) { e.Spec = s })
	}
	for name, f := range goodFleets() {
		list["Fleet: "+name] = standing(func(e *impl.Engine) { e.Fleet = f })
	}
	for _, x := range edgeTicks() {
		list["Now "+strconv.Itoa(x)] = standing(func(e *impl.Engine) { e.Now = x })
		list["Started "+strconv.Itoa(x)] = standing(func(e *impl.Engine) { e.Started = x })
		list["WaitTill "+strconv.Itoa(x)] = standing(func(e *impl.Engine) { e.WaitTill = x })
	}
	for phase := range 4 {
		list["Phase "+strconv.Itoa(phase)] = standing(func(e *impl.Engine) { e.Phase = phase })
	}
	for _, rev := range []int{1, 2, 999, 1000} {
		list["Target "+strconv.Itoa(rev)] = standing(func(e *impl.Engine) { e.Target = rev })
		list["Good "+strconv.Itoa(rev)] = standing(func(e *impl.Engine) { e.Good = rev })
	}
	for _, n := range []int{0, 1, 199, 200} {
		list["Tries "+strconv.Itoa(n)] = standing(func(e *impl.Engine) { e.Tries = n })
	}
	return list
}

func textBy(e impl.Engine) string {
	avail := 0
	for _, p := range e.Fleet.Pods {
		if availableBy(e.Spec, p, e.Now) {
			avail++
		}
	}
	name := []string{"idle", "rolls", "back", "degraded"}[e.Phase]
	return name + " to " + strconv.Itoa(e.Target) + " good " + strconv.Itoa(e.Good) + " pods " + strconv.Itoa(len(e.Fleet.Pods)) + " avail " + strconv.Itoa(avail)
}

func TestEngineOkAndWhatAsksForIt(t *testing.T) {
	for name, e := range goodEngines() {
		if !impl.EngineOk(e) || impl.EngineText(e) != textBy(e) || impl.Settled(e) != settledBy(e) {
			t.Errorf("%s: %v, %q, %v", name, impl.EngineOk(e), impl.EngineText(e), impl.Settled(e))
		}
	}
	for name, e := range badEngines() {
		if impl.EngineOk(e) || impl.EngineText(e) != "" || impl.Settled(e) || impl.NextEngine(e) != -1 {
			t.Errorf("%s: %v, %q, %v, %d", name, impl.EngineOk(e), impl.EngineText(e), impl.Settled(e), impl.NextEngine(e))
		}
	}
}

func TestSettled(t *testing.T) {
	for _, c := range []struct {
		name   string
		change func(e *impl.Engine)
		want   bool
	}{
		{"idle", func(e *impl.Engine) {}, true},
		{"rolls", func(e *impl.Engine) { e.Phase = impl.PhaseRolls }, false},
		{"back", func(e *impl.Engine) { e.Phase = impl.PhaseBack }, false},
		{"degraded", func(e *impl.Engine) { e.Phase = impl.PhaseDegraded }, true},
		{"another is good", func(e *impl.Engine) { e.Good = 9 }, true},
		{"one too many", func(e *impl.Engine) { e.Spec.Replicas = 1 }, false},
		{"one too few", func(e *impl.Engine) { e.Spec.Replicas = 3 }, false},
		{"none", func(e *impl.Engine) { e.Fleet.Pods = nil }, false},
		{"one of another Rev", func(e *impl.Engine) { e.Fleet.Pods[0].Rev = 1 }, false},
		{"all of another Rev", func(e *impl.Engine) { e.Target = 1 }, false},
		{"one more, of another Rev", func(e *impl.Engine) {
			e.Fleet.Pods = append(e.Fleet.Pods, impl.Pod{Id: 6, Rev: 1, State: impl.PodReady})
		}, false},
		{"one more that goes", func(e *impl.Engine) {
			e.Fleet.Pods = append(e.Fleet.Pods, impl.Pod{Id: 6, Rev: 2, State: impl.PodGoing})
		}, false},
		{"one goes", func(e *impl.Engine) { pod(e, impl.PodGoing, 1) }, false},
		{"one is new", func(e *impl.Engine) { pod(e, impl.PodNew, 99) }, false},
		{"one runs", func(e *impl.Engine) { pod(e, impl.PodRuns, 99) }, false},
		{"one is broken", func(e *impl.Engine) { pod(e, impl.PodBroken, 99) }, false},
		{"one is not available yet", func(e *impl.Engine) { pod(e, impl.PodReady, 98) }, false},
		{"one is available just now", func(e *impl.Engine) { pod(e, impl.PodReady, 97) }, true},
		{"at MaxTick", func(e *impl.Engine) { e.Now = top }, true},
	} {
		if got := impl.Settled(standing(c.change)); got != c.want {
			t.Errorf("%s: %v", c.name, got)
		}
	}
}

func TestEngineText(t *testing.T) {
	for phase, want := range []string{"idle to 7 good 1000 pods 3 avail 1", "rolls to 7 good 1000 pods 3 avail 1", "back to 7 good 1000 pods 3 avail 1", "degraded to 7 good 1000 pods 3 avail 1"} {
		e := standing(func(e *impl.Engine) { e.Phase, e.Target, e.Good = phase, 7, 1000 })
		e.Fleet.Pods = append(e.Fleet.Pods, impl.Pod{Id: 8, Rev: 7, State: impl.PodReady, Since: 99})
		e.Fleet.Pods[1].State = impl.PodGoing
		if got := impl.EngineText(e); got != want {
			t.Errorf("%q, want %q", got, want)
		}
	}
}

func TestEnginesAreNotWrittenIntoNorShared(t *testing.T) {
	ops := []impl.Op{tickOp(1), reportOp(1, 1, 2), reportOp(2, 1, 3), editOp(2, 0), tickOp(25), {Kind: 7}, reportOp(1, 1, 2)}
	kept := slices.Clone(ops)
	a, events, codes, _ := impl.PlayEngine(impl.DefaultSpec(), 1, ops)
	b, events2, codes2, _ := impl.PlayEngine(impl.DefaultSpec(), 1, ops)
	impl.EngineText(a)
	impl.NextEngine(a)
	impl.Settled(a)
	if !slices.Equal(ops, kept) || !sameEngines(a, b) {
		t.Errorf("%v; %v, want %v", ops, a, b)
	}
	pods := a.Fleet.Pods[:cap(a.Fleet.Pods)]
	for i := range pods {
		pods[i] = impl.Pod{Id: -1}
	}
	for i := range events[:cap(events)] {
		events[:cap(events)][i] = impl.Event{Kind: -1}
	}
	for i := range codes[:cap(codes)] {
		codes[:cap(codes)][i] = -1
	}
	c, events3, codes3, _ := impl.PlayEngine(impl.DefaultSpec(), 1, ops)
	if !sameEngines(b, c) || !slices.Equal(events2, events3) || !slices.Equal(codes2, codes3) || !slices.Equal(ops, kept) {
		t.Errorf("%v, %v, %v", c, events3, codes3)
	}
	n, _ := impl.NewEngine(impl.DefaultSpec(), 1)
	m, _ := impl.NewEngine(impl.DefaultSpec(), 1)
	n.Fleet.Pods = append(n.Fleet.Pods, impl.Pod{Id: 1})
	if len(m.Fleet.Pods) != 0 {
		t.Errorf("%v", m)
	}
}
