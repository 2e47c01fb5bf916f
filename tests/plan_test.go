package tests

import (
	"math"
	"math/rand"
	"slices"
	"strconv"
	"testing"

	"loop.example/g00734/impl"
)

// rolling is the default with just these three numbers of its own.
func rolling(replicas, surge, out int) impl.Spec {
	return specWith(func(s *impl.Spec) { s.Replicas, s.Surge, s.Out = replicas, surge, out })
}

// canary is the default with Replicas 4, these two, a Canary, MinReady 3 and Bake 4.
func canary(surge, out, first int) impl.Spec {
	return specWith(func(s *impl.Spec) { s.Surge, s.Out, s.Canary, s.Bake = surge, out, first, 4 })
}

// smallSpecs are all that may roll up to so many replicas.
func smallSpecs(most int) []impl.Spec {
	list := []impl.Spec{}
	for replicas := 1; replicas <= most; replicas++ {
		for surge := 0; surge <= replicas; surge++ {
			for out := 0; out <= replicas; out++ {
				if surge+out > 0 {
					list = append(list, rolling(replicas, surge, out))
				}
			}
		}
	}
	return list
}

// countsUpTo are all the counts of up to so many pods.
func countsUpTo(live int) []impl.Count {
	list := []impl.Count{}
	for n := 0; n <= live; n++ {
		for avail := 0; avail <= n; avail++ {
			list = append(list, impl.Count{Live: n, Avail: avail})
		}
	}
	return list
}

func badCounts() []impl.Count {
	return []impl.Count{
		{Live: 0, Avail: 1}, {Live: 4, Avail: 5}, {Live: 30, Avail: 31}, {Live: 31, Avail: 0}, {Live: 31, Avail: 31}, {Live: 31, Avail: 4},
		{Live: -1, Avail: -1}, {Live: -1, Avail: 0}, {Live: -1, Avail: -2}, {Live: 0, Avail: -1}, {Live: 4, Avail: -1},
		{Live: math.MaxInt}, {Live: math.MaxInt, Avail: math.MaxInt}, {Live: math.MinInt}, {Live: math.MinInt, Avail: math.MinInt},
		{Live: 4, Avail: math.MinInt}, {Live: 4, Avail: math.MaxInt},
	}
}

func countOkBy(c impl.Count) bool { return 0 <= c.Avail && c.Avail <= c.Live && c.Live <= 30 }

func TestCountOk(t *testing.T) {
	numbers := []int{math.MinInt, math.MinInt + 1, math.MaxInt - 1, math.MaxInt}
	for x := -3; x <= 34; x++ {
		numbers = append(numbers, x)
	}
	for _, live := range numbers {
		for _, avail := range numbers {
			c := impl.Count{Live: live, Avail: avail}
			if impl.CountOk(c) != countOkBy(c) {
				t.Errorf("CountOk of %v: %v", c, impl.CountOk(c))
			}
		}
	}
	for _, c := range badCounts() {
		if impl.CountOk(c) {
			t.Errorf("CountOk of %v", c)
		}
	}
}

type step struct {
	name  string
	spec  impl.Spec
	fresh impl.Count
	old   impl.Count
	going int
	limit int
	want  impl.Plan
}

func checkSteps(t *testing.T, steps []step) {
	t.Helper()
	for _, c := range steps {
		got, ok := impl.PlanStep(c.spec, c.fresh, c.old, c.going, c.limit)
		if !ok || got != c.want {
			t.Errorf("%s: %v, %v, want %v", c.name, got, ok, c.want)
		}
	}
}

func up(n int) impl.Count { return impl.Count{Live: n, Avail: n} }

func upOf(avail, live int) impl.Count { return impl.Count{Live: live, Avail: avail} }

func TestPlanStepOfARollout(t *testing.T) {
	s := impl.DefaultSpec()
	checkSteps(t, []step{
		{"the first step", s, up(0), up(4), 0, 4, impl.Plan{Create: 1, DropAvail: 1}},
		{"the fresh one is new, the dropped one goes", s, upOf(0, 1), up(3), 1, 4, impl.Plan{}},
		{"the fresh one is new, the dropped one is gone", s, upOf(0, 1), up(3), 0, 4, impl.Plan{Create: 1}},
		{"the second step", s, up(1), up(3), 0, 4, impl.Plan{Create: 1, DropAvail: 1}},
		{"the last step", s, up(3), up(1), 0, 4, impl.Plan{Create: 1, DropAvail: 1}},
		{"nothing to do", s, up(4), up(0), 0, 4, impl.Plan{}},
		{"all else is done", s, up(4), up(1), 0, 4, impl.Plan{DropAvail: 1}},
		{"from nothing", s, up(0), up(0), 0, 4, impl.Plan{Create: 4}},
		{"from nothing, with some that go", s, up(0), up(0), 2, 4, impl.Plan{Create: 3}},
		{"from nothing, with as many as the ceiling", s, up(0), up(0), 5, 4, impl.Plan{}},
		{"no old ones, one fresh one is missing", s, up(3), up(0), 0, 4, impl.Plan{Create: 1}},
		{"no old ones, the fresh are not available", s, upOf(0, 4), up(0), 0, 4, impl.Plan{}},
		{"old ones of which none is available", s, up(0), upOf(0, 4), 0, 4, impl.Plan{Create: 1, Drop: 4}},
		{"some old ones are not available", s, up(0), upOf(2, 4), 0, 4, impl.Plan{Create: 1, Drop: 2}},
		{"one old one is not available", s, up(0), upOf(3, 4), 0, 4, impl.Plan{Create: 1, Drop: 1}},
		{"both kinds of old ones are dropped", s, up(2), upOf(2, 3), 0, 4, impl.Plan{Drop: 1, DropAvail: 1}},
	})
}

func TestPlanStepWithSurge0OrOut0(t *testing.T) {
	surge0, out0, all := rolling(4, 0, 1), rolling(4, 1, 0), rolling(4, 4, 4)
	checkSteps(t, []step{
		{"Surge 0: first one is dropped", surge0, up(0), up(4), 0, 4, impl.Plan{DropAvail: 1}},
		{"Surge 0: it goes", surge0, up(0), up(3), 1, 4, impl.Plan{}},
		{"Surge 0: then one is made", surge0, up(0), up(3), 0, 4, impl.Plan{Create: 1}},
		{"Surge 0: it is new", surge0, upOf(0, 1), up(3), 0, 4, impl.Plan{}},
		{"Surge 0: the next is dropped", surge0, up(1), up(3), 0, 4, impl.Plan{DropAvail: 1}},
		{"Surge 0: one of the old ones is not available", surge0, up(0), upOf(3, 4), 0, 4, impl.Plan{Drop: 1}},
		{"Out 0: first one is made", out0, up(0), up(4), 0, 4, impl.Plan{Create: 1}},
		{"Out 0: it is new", out0, upOf(0, 1), up(4), 0, 4, impl.Plan{}},
		{"Out 0: then one is dropped", out0, up(1), up(4), 0, 4, impl.Plan{DropAvail: 1}},
		{"Out 0: it goes", out0, up(1), up(3), 1, 4, impl.Plan{}},
		{"Out 0: the next is made", out0, up(1), up(3), 0, 4, impl.Plan{Create: 1}},
		{"all at once", all, up(0), up(4), 0, 4, impl.Plan{Create: 4, DropAvail: 4}},
		{"all at once, one goes", all, up(0), up(4), 1, 4, impl.Plan{Create: 3, DropAvail: 4}},
		{"one replica, Surge", rolling(1, 1, 0), up(0), up(1), 0, 1, impl.Plan{Create: 1}},
		{"one replica, Surge, up", rolling(1, 1, 0), up(1), up(1), 0, 1, impl.Plan{DropAvail: 1}},
		{"one replica, Out", rolling(1, 0, 1), up(0), up(1), 0, 1, impl.Plan{DropAvail: 1}},
		{"one replica, both", rolling(1, 1, 1), up(0), up(1), 0, 1, impl.Plan{Create: 1, DropAvail: 1}},
	})
}

// With a limit of 2 of 4 replicas two old ones are held back.
func TestPlanStepOfACanary(t *testing.T) {
	s, surge0, out0 := canary(1, 1, 2), canary(0, 1, 2), canary(1, 0, 2)
	checkSteps(t, []step{
		{"first", s, up(0), up(4), 0, 2, impl.Plan{Create: 1, DropAvail: 1}},
		{"second", s, up(1), up(3), 0, 2, impl.Plan{Create: 1, DropAvail: 1}},
		{"it bakes", s, up(2), up(2), 0, 2, impl.Plan{}},
		{"it is baked", s, up(2), up(2), 0, 4, impl.Plan{Create: 1, DropAvail: 1}},
		{"more fresh ones than the limit", s, up(3), up(2), 0, 2, impl.Plan{}},
		{"fewer old ones than are held back", s, up(2), up(1), 0, 2, impl.Plan{}},
		{"old ones that are not available are held back too", s, up(2), upOf(0, 2), 0, 2, impl.Plan{}},
		{"Surge 0: first one is dropped", surge0, up(0), up(4), 0, 2, impl.Plan{DropAvail: 1}},
		{"Surge 0: then one is made", surge0, up(0), up(3), 0, 2, impl.Plan{Create: 1}},
		{"Surge 0: the next is dropped", surge0, up(1), up(3), 0, 2, impl.Plan{DropAvail: 1}},
		{"Surge 0: the next is made", surge0, up(1), up(2), 0, 2, impl.Plan{Create: 1}},
		{"Surge 0: it bakes", surge0, up(2), up(2), 0, 2, impl.Plan{}},
		{"Surge 0: it is baked", surge0, up(2), up(2), 0, 4, impl.Plan{DropAvail: 1}},
		{"Out 0: first one is made", out0, up(0), up(4), 0, 2, impl.Plan{Create: 1}},
		{"Out 0: then one is dropped", out0, up(1), up(4), 0, 2, impl.Plan{DropAvail: 1}},
		{"Out 0: the next is made", out0, up(1), up(3), 0, 2, impl.Plan{Create: 1}},
		{"Out 0: the next is dropped", out0, up(2), up(3), 0, 2, impl.Plan{DropAvail: 1}},
		{"Out 0: it bakes", out0, up(2), up(2), 0, 2, impl.Plan{}},
		{"Out 0: it is baked", out0, up(2), up(2), 0, 4, impl.Plan{Create: 1}},
		{"as many as Replicas", canary(1, 1, 4), up(0), up(4), 0, 4, impl.Plan{Create: 1, DropAvail: 1}},
	})
}

func TestPlanStepAtLimits(t *testing.T) {
	s := impl.DefaultSpec()
	checkSteps(t, []step{
		{"limit 0, as many old ones as Replicas", s, up(0), up(4), 0, 0, impl.Plan{}},
		{"limit 0, one old one above Replicas", s, up(0), up(5), 0, 0, impl.Plan{DropAvail: 1}},
		{"limit 0, one old one above, not available", s, up(0), upOf(4, 5), 0, 0, impl.Plan{Drop: 1}},
		{"limit 0, old ones that are none of them available", s, up(0), upOf(0, 4), 0, 0, impl.Plan{}},
		{"limit 0, no pods", s, up(0), up(0), 0, 0, impl.Plan{}},
		{"limit 0, fresh ones", s, up(2), up(2), 0, 0, impl.Plan{}},
		{"limit 0, more fresh ones than Replicas", s, up(6), up(0), 0, 0, impl.Plan{DropFresh: 2}},
		{"limit 1", s, up(0), up(4), 0, 1, impl.Plan{Create: 1, DropAvail: 1}},
		{"limit 3", s, up(3), up(2), 0, 3, impl.Plan{DropAvail: 1}},
		{"limit 3, just as many", s, up(3), up(1), 0, 3, impl.Plan{}},
		{"limit 4", s, up(3), up(1), 0, 4, impl.Plan{Create: 1, DropAvail: 1}},
	})
}

func TestPlanStepWithTooManyOrTooFew(t *testing.T) {
	s := impl.DefaultSpec()
	checkSteps(t, []step{
		{"more fresh ones than Replicas", s, up(6), up(0), 0, 4, impl.Plan{DropFresh: 2}},
		{"more fresh ones, and old ones", s, upOf(4, 6), upOf(0, 2), 0, 4, impl.Plan{Drop: 2, DropFresh: 2}},
		{"more fresh ones, old ones available", s, up(5), up(3), 0, 4, impl.Plan{DropAvail: 3, DropFresh: 1}},
		{"more fresh ones, none available", s, upOf(0, 7), up(3), 0, 4, impl.Plan{DropFresh: 3}},
		{"just as many fresh ones as Replicas", s, up(4), up(0), 0, 4, impl.Plan{}},
		{"one more old one than the ceiling", s, up(0), up(6), 0, 4, impl.Plan{DropAvail: 3}},
		{"more live and going than the ceiling", s, up(1), up(3), 2, 4, impl.Plan{DropAvail: 1}},
		{"just as many live and going as the ceiling", s, up(1), up(3), 1, 4, impl.Plan{DropAvail: 1}},
		{"one fewer", s, up(1), up(2), 1, 4, impl.Plan{Create: 1}},
		{"fewer available than the floor", s, up(0), up(2), 0, 4, impl.Plan{Create: 3}},
		{"fewer available than the floor, others are dropped", s, up(0), upOf(1, 4), 0, 4, impl.Plan{Create: 1, Drop: 3}},
		{"just as many available as the floor", s, up(1), up(2), 0, 4, impl.Plan{Create: 2}},
		{"one more available than the floor", s, up(1), up(3), 0, 4, impl.Plan{Create: 1, DropAvail: 1}},
		{"the fresh ones count for the floor", s, upOf(2, 3), up(2), 0, 4, impl.Plan{DropAvail: 1}},
		{"the room is used up by Drop", s, up(2), upOf(3, 4), 0, 1, impl.Plan{Drop: 1}},
		{"what is left of the room is more than spare", s, up(0), upOf(4, 8), 0, 2, impl.Plan{Drop: 4, DropAvail: 1}},
		{"the room is less than the old ones that are not available", s, up(4), upOf(2, 6), 0, 1, impl.Plan{Drop: 3}},
		{"what is left of the room is less than spare", s, up(4), upOf(4, 5), 0, 2, impl.Plan{Drop: 1, DropAvail: 2}},
		{"what is left of the room is just spare, and more is available", s, up(1), upOf(4, 6), 0, 2, impl.Plan{Drop: 2, DropAvail: 2}},
		{"the old available ones are fewer than spare", s, up(4), upOf(1, 3), 0, 4, impl.Plan{Drop: 2, DropAvail: 1}},
	})
}

// The greatest numbers of a count and of going are accepted, whatever they come to together.
func TestPlanStepAtTheEndsOfItsBounds(t *testing.T) {
	s, great := impl.DefaultSpec(), greatSpec()
	checkSteps(t, []step{
		{"fresh 30", s, up(30), up(0), 0, 4, impl.Plan{DropFresh: 26}},
		{"fresh 30, none available", s, upOf(0, 30), up(0), 0, 4, impl.Plan{DropFresh: 26}},
		{"old 30", s, up(0), up(30), 0, 4, impl.Plan{DropAvail: 27}},
		{"old 30, none available", s, up(0), upOf(0, 30), 0, 4, impl.Plan{Drop: 30}},
		{"old 30, limit 0", s, up(0), up(30), 0, 0, impl.Plan{DropAvail: 26}},
		{"going 30", s, up(0), up(0), 30, 4, impl.Plan{}},
		{"going 30, the greatest", great, up(0), up(0), 30, 12, impl.Plan{}},
		{"all 30", s, up(30), up(30), 30, 4, impl.Plan{DropAvail: 30, DropFresh: 26}},
		{"the greatest, from nothing", great, up(0), up(0), 0, 12, impl.Plan{Create: 12}},
		{"the greatest, a step", great, up(0), up(12), 0, 12, impl.Plan{Create: 12, DropAvail: 12}},
		{"the greatest, one goes", great, up(0), up(12), 1, 12, impl.Plan{Create: 11, DropAvail: 12}},
		{"the least", leastSpec(), up(0), up(0), 0, 1, impl.Plan{Create: 1}},
		{"the least, limit 0", leastSpec(), up(0), up(0), 0, 0, impl.Plan{}},
	})
}

// planBy tries one pod after the other, as long as the document lets it.
func planBy(s impl.Spec, fresh, old impl.Count, going, limit int) (impl.Plan, bool) {
	p := impl.Plan{}
	if !specOkBy(s) || !countOkBy(fresh) || !countOkBy(old) || going < 0 || going > 30 || limit < 0 || limit > s.Replicas {
		return p, false
	}
	for fresh.Live+p.Create < limit && fresh.Live+old.Live+going+p.Create < s.Replicas+s.Surge {
		p.Create++
	}
	held := 0
	if limit != s.Replicas {
		held = s.Replicas - limit
	}
	for old.Live-p.Drop > held && old.Avail < old.Live-p.Drop {
		p.Drop++
	}
	left := old.Live - p.Drop
	for left-p.DropAvail > held && p.DropAvail < old.Avail && fresh.Avail+old.Avail-p.DropAvail > s.Replicas-s.Out {
		p.DropAvail++
	}
	for fresh.Live-p.DropFresh > s.Replicas {
		p.DropFresh++
	}
	return p, true
}

// checkPlan holds a plan against the document and against what follows from it.
func checkPlan(t *testing.T, s impl.Spec, fresh, old impl.Count, going, limit int) {
	t.Helper()
	p, ok := impl.PlanStep(s, fresh, old, going, limit)
	if want, wantOk := planBy(s, fresh, old, going, limit); p != want || ok != wantOk {
		t.Fatalf("%v: PlanStep of %v, %v, %d, %d = %v, %v, want %v, %v", s, fresh, old, going, limit, p, ok, want, wantOk)
	}
	alive, avail := fresh.Live+old.Live+going, fresh.Avail+old.Avail
	if alive+p.Create > max(alive, impl.Ceiling(s)) {
		t.Fatalf("%v: %v, %v, %d, %d: %v is above the ceiling", s, fresh, old, going, limit, p)
	}
	// Of the fresh ones those that are not available go first.
	freshAvail := max(p.DropFresh-(fresh.Live-fresh.Avail), 0)
	if avail-p.DropAvail-freshAvail < min(avail, impl.Floor(s)) {
		t.Fatalf("%v: %v, %v, %d, %d: %v is below the floor", s, fresh, old, going, limit, p)
	}
}

func TestPlanStepOfAllSmallCounts(t *testing.T) {
	for _, s := range smallSpecs(3) {
		counts := countsUpTo(2*s.Replicas + 2)
		for _, fresh := range counts {
			for _, old := range counts {
				for going := 0; going <= s.Replicas+s.Surge+1; going++ {
					for limit := 0; limit <= s.Replicas; limit++ {
						checkPlan(t, s, fresh, old, going, limit)
					}
				}
			}
		}
	}
}

func TestPlanStepByChance(t *testing.T) {
	chance := rand.New(rand.NewSource(7))
	specs := smallSpecs(impl.MaxReplicas)
	for range 300000 {
		s := specs[chance.Intn(len(specs))]
		most := []int{s.Replicas + s.Surge, impl.MaxPods, impl.MaxPods + 1}[chance.Intn(3)]
		fresh, old := impl.Count{Live: chance.Intn(most + 1)}, impl.Count{Live: chance.Intn(most + 1)}
		fresh.Avail, old.Avail = chance.Intn(fresh.Live+1), chance.Intn(old.Live+1)
		checkPlan(t, s, fresh, old, chance.Intn(3)*chance.Intn(most+1)/2, chance.Intn(s.Replicas+2))
	}
}

func wantRefused(t *testing.T, name string, s impl.Spec, fresh, old impl.Count, going, limit int) {
	t.Helper()
	if p, ok := impl.PlanStep(s, fresh, old, going, limit); ok || p != (impl.Plan{}) {
		t.Errorf("%s: PlanStep of %v, %v, %d, %d = %v, %v", name, fresh, old, going, limit, p, ok)
	}
}

func TestPlanStepRefuses(t *testing.T) {
	for name, s := range badSpecs() {
		wantRefused(t, name, s, up(0), up(0), 0, 0)
		wantRefused(t, name, s, up(0), up(4), 0, 1)
		wantRefused(t, name, s, up(0), up(4), 0, s.Replicas)
	}
	for name, s := range goodSpecs() {
		for _, c := range badCounts() {
			wantRefused(t, name, s, c, up(0), 0, s.Replicas)
			wantRefused(t, name, s, up(0), c, 0, s.Replicas)
			wantRefused(t, name, s, c, c, 0, 0)
		}
		for _, going := range []int{-1, -2, 31, 32, math.MinInt, math.MaxInt} {
			wantRefused(t, name, s, up(0), up(1), going, s.Replicas)
		}
		for _, limit := range []int{-1, -2, s.Replicas + 1, s.Replicas + s.Surge + 1, 31, math.MinInt, math.MaxInt} {
			wantRefused(t, name, s, up(0), up(1), 0, limit)
		}
		for _, going := range []int{0, 1, 29, 30} {
			for _, limit := range []int{0, s.Replicas - 1, s.Replicas} {
				for _, c := range []impl.Count{up(0), up(1), up(29), up(30), upOf(0, 30), upOf(29, 30)} {
					checkPlan(t, s, c, up(0), going, limit)
					checkPlan(t, s, up(0), c, going, limit)
				}
			}
		}
	}
}

func countBy(s impl.Spec, f impl.Fleet, rev int, now int, rest bool) (impl.Count, bool) {
	c := impl.Count{}
	if !specOkBy(s) || !okBy(f) || rev < 1 || rev > 1000 || !tickBy(now) {
		return c, false
	}
	for _, p := range f.Pods {
		if (p.Rev != rev) == rest && p.State != 4 {
			c.Live++
			if availableBy(s, p, now) {
				c.Avail++
			}
		}
	}
	return c, true
}

func checkCounts(t *testing.T, name string, s impl.Spec, f impl.Fleet, rev int, now int) {
	t.Helper()
	got, ok := impl.CountOf(s, f, rev, now)
	if want, wantOk := countBy(s, f, rev, now, false); got != want || ok != wantOk {
		t.Errorf("%s: CountOf of %d at %d = %v, %v, want %v, %v", name, rev, now, got, ok, want, wantOk)
	}
	got, ok = impl.RestOf(s, f, rev, now)
	if want, wantOk := countBy(s, f, rev, now, true); got != want || ok != wantOk {
		t.Errorf("%s: RestOf of %d at %d = %v, %v, want %v, %v", name, rev, now, got, ok, want, wantOk)
	}
}

// planFleet has of Rev 2 one in each state and one that is ready since 105, of Rev 5 two that go, one new and one ready.
func planFleet() impl.Fleet {
	f := impl.Fleet{Next: 40}
	for i, p := range []impl.Pod{
		{Rev: 2, State: impl.PodNew}, {Rev: 5, State: impl.PodGoing}, {Rev: 2, State: impl.PodRuns}, {Rev: 2, State: impl.PodReady}, {Rev: 5, State: impl.PodReady},
		{Rev: 2, State: impl.PodBroken}, {Rev: 2, State: impl.PodGoing}, {Rev: 5, State: impl.PodGoing}, {Rev: 2, State: impl.PodReady}, {Rev: 5, State: impl.PodNew},
	} {
		p.Id, p.Since = 3*i+1, 100
		f.Pods = append(f.Pods, p)
	}
	f.Pods[8].Since = 105
	return f
}

func TestCountOfAndRestOfAFleet(t *testing.T) {
	s, f := impl.DefaultSpec(), planFleet()
	for _, c := range []struct {
		rev, now  int
		all, rest impl.Count
	}{
		{2, 99, upOf(0, 5), upOf(0, 2)},
		{2, 102, upOf(0, 5), upOf(0, 2)},
		{2, 103, upOf(1, 5), upOf(1, 2)},
		{2, 107, upOf(1, 5), upOf(1, 2)},
		{2, 108, upOf(2, 5), upOf(1, 2)},
		{2, top, upOf(2, 5), upOf(1, 2)},
		{5, 107, upOf(1, 2), upOf(1, 5)},
		{5, 108, upOf(1, 2), upOf(2, 5)},
		{1, 108, upOf(0, 0), upOf(3, 7)},
		{1000, 108, upOf(0, 0), upOf(3, 7)},
	} {
		all, ok := impl.CountOf(s, f, c.rev, c.now)
		rest, restOk := impl.RestOf(s, f, c.rev, c.now)
		if !ok || !restOk || all != c.all || rest != c.rest {
			t.Errorf("%d at %d: %v, %v and %v, %v", c.rev, c.now, all, ok, rest, restOk)
		}
	}
	for i := range f.Pods {
		f.Pods[i].State = impl.PodGoing
	}
	all, ok := impl.CountOf(s, f, 2, 200)
	rest, restOk := impl.RestOf(s, f, 2, 200)
	if !ok || !restOk || all != up(0) || rest != up(0) {
		t.Errorf("all go: %v, %v and %v, %v", all, ok, rest, restOk)
	}
}

func TestCountOfAndRestOf(t *testing.T) {
	revs := []int{math.MinInt, -1, 0, 1, 2, 3, 4, 5, 999, 1000, 1001, math.MaxInt}
	fleets := goodFleets()
	fleets["a plan's"] = planFleet()
	for _, s := range goodSpecs() {
		for name, f := range fleets {
			for _, now := range append([]int{3, 13, 102, 103, 108, 290, 293}, append(edgeTicks(), noTicks()...)...) {
				for _, rev := range revs {
					checkCounts(t, name, s, f, rev, now)
				}
			}
		}
	}
}

func TestCountsThatAreRefused(t *testing.T) {
	for name, s := range badSpecs() {
		checkCounts(t, name, s, planFleet(), 2, 200)
		checkCounts(t, name, s, impl.NewFleet(), 2, 200)
	}
	for name, f := range badFleets() {
		checkCounts(t, name, impl.DefaultSpec(), f, 1, 200)
		checkCounts(t, name, impl.DefaultSpec(), f, 2, 0)
	}
}

func TestLimitOf(t *testing.T) {
	for _, c := range []struct {
		spec         impl.Spec
		rolls, baked int
	}{
		{impl.DefaultSpec(), 4, 4}, {canary(1, 1, 1), 1, 4}, {canary(1, 0, 2), 2, 4}, {canary(0, 1, 3), 3, 4}, {canary(1, 1, 4), 4, 4},
		{greatSpec(), 12, 12}, {leastSpec(), 1, 1}, {specWith(func(s *impl.Spec) { s.Replicas, s.Canary = 12, 1 }), 1, 12},
	} {
		if rolls, baked := impl.LimitOf(c.spec, false), impl.LimitOf(c.spec, true); rolls != c.rolls || baked != c.baked {
			t.Errorf("LimitOf of %v: %d, baked %d", c.spec, rolls, baked)
		}
	}
	for name, s := range badSpecs() {
		if rolls, baked := impl.LimitOf(s, false), impl.LimitOf(s, true); rolls != 0 || baked != 0 {
			t.Errorf("%s: LimitOf %d, baked %d", name, rolls, baked)
		}
	}
}

func bakedBy(s impl.Spec, f impl.Fleet, rev int, now int) bool {
	if !specOkBy(s) || !okBy(f) || !tickBy(now) {
		return false
	}
	ready := []impl.Pod{}
	for _, p := range f.Pods {
		if p.Rev == rev && p.State == 2 && waitedBy(p, now) >= s.MinReady+s.Bake {
			ready = append(ready, p)
		}
	}
	return s.Canary == 0 || len(ready) >= s.Canary
}

// The ready ones of Rev 2 are so since 100 and 105; MinReady and Bake are 7 together.
func TestBakedAtEachTick(t *testing.T) {
	f := planFleet()
	for _, c := range []struct {
		first, rev, now int
		want            bool
	}{
		{1, 2, 99, false}, {1, 2, 103, false}, {1, 2, 106, false}, {1, 2, 107, true}, {1, 2, 108, true}, {1, 2, top, true},
		{2, 2, 107, false}, {2, 2, 111, false}, {2, 2, 112, true}, {2, 2, 113, true}, {3, 2, 112, false}, {3, 2, top, false}, {4, 2, top, false},
		{1, 5, 106, false}, {1, 5, 107, true}, {2, 5, top, false}, {1, 1, top, false}, {1, 1000, top, false},
		{1, 0, top, false}, {1, -1, top, false}, {1, 1001, top, false},
		{0, 2, 0, true}, {0, 2, 99, true}, {0, 9, 0, true}, {0, 9, top, true},
	} {
		for _, s := range []impl.Spec{canary(1, 1, c.first), canary(0, 1, c.first), canary(1, 0, c.first)} {
			if got := impl.Baked(s, f, c.rev, c.now); got != c.want {
				t.Errorf("Canary %d: Baked of %d at %d = %v", c.first, c.rev, c.now, got)
			}
		}
	}
}

// Only MinReady, only Bake, or none is to be waited for.
func TestBakedOfEachWait(t *testing.T) {
	f := impl.Fleet{Pods: []impl.Pod{{Id: 1, Rev: 2, State: impl.PodReady, Since: 50}}, Next: 2}
	for minReady := range 4 {
		for bake := range 4 {
			s := specWith(func(s *impl.Spec) { s.MinReady, s.Bake, s.Canary = minReady, bake, 1 })
			for now := 50; now < 60; now++ {
				if got := impl.Baked(s, f, 2, now); got != (now >= 50+minReady+bake) {
					t.Errorf("MinReady %d, Bake %d: Baked at %d = %v", minReady, bake, now, got)
				}
			}
		}
	}
	f.Pods[0].Since = top - 2000
	for now, want := range map[int]bool{top - 2001: false, top - 1000: false, top - 1: false, top: true} {
		s := greatSpec()
		s.Canary = 1
		if got := impl.Baked(s, f, 2, now); got != want {
			t.Errorf("the greatest: Baked at %d = %v", now, got)
		}
	}
}

func TestBaked(t *testing.T) {
	specs := goodSpecs()
	for _, first := range []int{1, 2, 3} {
		specs["Canary, Surge 0, "+strconv.Itoa(first)] = canary(0, 1, first)
		specs["Canary, Out 0, "+strconv.Itoa(first)] = canary(1, 0, first)
	}
	fleets := goodFleets()
	fleets["a plan's"] = planFleet()
	for spec, s := range specs {
		for name, f := range fleets {
			for _, now := range append([]int{106, 107, 112, 297}, append(edgeTicks(), noTicks()...)...) {
				for _, rev := range []int{math.MinInt, -1, 0, 1, 2, 3, 4, 5, 1000, 1001, math.MaxInt} {
					if got := impl.Baked(s, f, rev, now); got != bakedBy(s, f, rev, now) {
						t.Errorf("%s, %s: Baked of %d at %d = %v", spec, name, rev, now, got)
					}
				}
			}
		}
	}
}

// A Canary of 0 is baked only where all the rest is as it should be.
func TestBakedIsRefused(t *testing.T) {
	for name, s := range badSpecs() {
		if impl.Baked(s, planFleet(), 2, top) || impl.Baked(s, impl.NewFleet(), 1, 0) {
			t.Errorf("%s: Baked", name)
		}
	}
	for name, f := range badFleets() {
		for _, s := range []impl.Spec{impl.DefaultSpec(), canary(1, 1, 1)} {
			if impl.Baked(s, f, 1, top) || impl.Baked(s, f, 2, 0) {
				t.Errorf("%s: Baked", name)
			}
		}
	}
	for _, now := range noTicks() {
		if impl.Baked(impl.DefaultSpec(), planFleet(), 2, now) || impl.Baked(canary(1, 1, 1), planFleet(), 2, now) {
			t.Errorf("Baked at %d", now)
		}
	}
}

func TestPlanOver(t *testing.T) {
	s := impl.DefaultSpec()
	for _, c := range []struct {
		name       string
		fresh, old impl.Count
		going      int
		want       bool
	}{
		{"over", up(4), up(0), 0, true},
		{"one goes", up(4), up(0), 1, false},
		{"all go", up(4), up(0), 30, false},
		{"an old one", up(4), up(1), 0, false},
		{"an old one that is not available", up(4), upOf(0, 1), 0, false},
		{"one fresh one is not available", upOf(3, 4), up(0), 0, false},
		{"none is available", upOf(0, 4), up(0), 0, false},
		{"one too few", up(3), up(0), 0, false},
		{"one too many", up(5), up(0), 0, false},
		{"one too many, not available", upOf(4, 5), up(0), 0, false},
		{"none", up(0), up(0), 0, false},
		{"only old ones", up(0), up(4), 0, false},
	} {
		if got := impl.PlanOver(s, c.fresh, c.old, c.going); got != c.want {
			t.Errorf("%s: %v", c.name, got)
		}
	}
	for _, s := range smallSpecs(3) {
		for _, fresh := range countsUpTo(6) {
			for _, old := range countsUpTo(6) {
				for going := range 4 {
					want := fresh.Live == s.Replicas && fresh.Avail == s.Replicas && old.Live == 0 && going == 0
					if got := impl.PlanOver(s, fresh, old, going); got != want {
						t.Errorf("%v: PlanOver of %v, %v, %d = %v", s, fresh, old, going, got)
					}
				}
			}
		}
	}
}

func TestPlanOverOfNoCounts(t *testing.T) {
	s := impl.DefaultSpec()
	for _, c := range badCounts() {
		if impl.PlanOver(s, c, up(0), 0) {
			t.Errorf("over with %v", c)
		}
		if c.Live != 0 && impl.PlanOver(s, up(4), c, 0) {
			t.Errorf("over with the old ones %v", c)
		}
	}
	for _, going := range []int{-1, 31, math.MinInt, math.MaxInt} {
		if impl.PlanOver(s, up(4), up(0), going) {
			t.Errorf("over with %d that go", going)
		}
	}
	// The document asks nothing of the spec here but its Replicas.
	for name, s := range badSpecs() {
		if impl.PlanOver(s, up(s.Replicas), up(1), 0) || impl.PlanOver(s, up(s.Replicas), up(0), 1) || !impl.PlanOver(s, up(s.Replicas), up(0), 0) {
			t.Errorf("%s: PlanOver", name)
		}
	}
}

func TestCeilingAndFloor(t *testing.T) {
	for _, s := range append(smallSpecs(impl.MaxReplicas), leastSpec(), greatSpec(), canary(1, 0, 2)) {
		if impl.Ceiling(s) != s.Replicas+s.Surge || impl.Floor(s) != s.Replicas-s.Out {
			t.Errorf("%v: %d, %d", s, impl.Ceiling(s), impl.Floor(s))
		}
	}
	for name, s := range badSpecs() {
		if impl.Ceiling(s) != -1 || impl.Floor(s) != -1 || impl.StepsNeeded(s) != -1 {
			t.Errorf("%s: %d, %d, %d", name, impl.Ceiling(s), impl.Floor(s), impl.StepsNeeded(s))
		}
	}
}

func TestStepsNeeded(t *testing.T) {
	for _, c := range []struct{ replicas, surge, out, want int }{
		{1, 1, 0, 2}, {1, 0, 1, 2}, {1, 1, 1, 1},
		{4, 1, 1, 4}, {4, 1, 0, 8}, {4, 0, 1, 8}, {4, 4, 4, 1}, {4, 4, 0, 2}, {4, 0, 4, 2}, {4, 2, 1, 3}, {4, 0, 2, 4}, {4, 2, 0, 4},
		{12, 1, 0, 24}, {12, 0, 1, 24}, {12, 1, 1, 12}, {12, 12, 12, 1}, {12, 12, 0, 2}, {12, 0, 12, 2},
	} {
		s := rolling(c.replicas, c.surge, c.out)
		if got := impl.StepsNeeded(s); got != c.want {
			t.Errorf("%v: StepsNeeded %d, want %d", c, got, c.want)
		}
		// The limit is Replicas, whatever the Canary is.
		for first := range c.replicas + 1 {
			s.Canary, s.Bake = first, 1000
			if got := impl.StepsNeeded(s); got != c.want {
				t.Errorf("%v, Canary %d: StepsNeeded %d, want %d", c, first, got, c.want)
			}
		}
	}
}

// stepped is what a plan leaves when all that was made comes up and all that was dropped is gone.
func stepped(p impl.Plan, fresh, old impl.Count) (impl.Count, impl.Count) {
	broken := min(p.DropFresh, fresh.Live-fresh.Avail)
	fresh.Live += p.Create - p.DropFresh
	fresh.Avail += p.Create - (p.DropFresh - broken)
	old.Live -= p.Drop + p.DropAvail
	old.Avail -= p.DropAvail
	return fresh, old
}

// From one plan to the next there is always something to do until it is over, which is just behind StepsNeeded of them.
func TestStepsNeededLeadToTheEnd(t *testing.T) {
	for _, s := range smallSpecs(impl.MaxReplicas) {
		fresh, old, needed := up(0), up(s.Replicas), impl.StepsNeeded(s)
		for n := range needed {
			p, ok := impl.PlanStep(s, fresh, old, 0, s.Replicas)
			if !ok || p == (impl.Plan{}) || impl.PlanOver(s, fresh, old, 0) {
				t.Fatalf("%v: %v, %v behind %d of %d steps: %v, %v", s, fresh, old, n, needed, p, ok)
			}
			if fresh.Live+old.Live+p.Create > s.Replicas+s.Surge || fresh.Avail+old.Avail-p.DropAvail < s.Replicas-s.Out {
				t.Fatalf("%v: %v, %v behind %d of %d steps: %v", s, fresh, old, n, needed, p)
			}
			fresh, old = stepped(p, fresh, old)
		}
		if p, ok := impl.PlanStep(s, fresh, old, 0, s.Replicas); !ok || p != (impl.Plan{}) || !impl.PlanOver(s, fresh, old, 0) {
			t.Fatalf("%v: not over behind %d steps: %v, %v, %v", s, needed, fresh, old, p)
		}
	}
}

// Where all come up there is something to do from everywhere, until it is over.
func TestThereIsAlwaysSomethingToDo(t *testing.T) {
	for _, s := range smallSpecs(5) {
		for fresh := range 12 {
			for old := range 12 {
				p, ok := impl.PlanStep(s, up(fresh), up(old), 0, s.Replicas)
				if over := impl.PlanOver(s, up(fresh), up(old), 0); !ok || (p == (impl.Plan{})) != over {
					t.Errorf("%v: %d fresh, %d old: %v, over %v", s, fresh, old, p, over)
				}
			}
		}
	}
}

// A canary comes to a stand with as many fresh ones as its limit and the others old, and goes on from there.
func TestCanariesComeToAStandAndGoOn(t *testing.T) {
	for _, s := range smallSpecs(impl.MaxReplicas) {
		for first := 1; first <= s.Replicas; first++ {
			s.Canary = first
			fresh, old := up(0), up(s.Replicas)
			for _, baked := range []bool{false, true} {
				limit := impl.LimitOf(s, baked)
				for range 3 * s.Replicas {
					p, ok := impl.PlanStep(s, fresh, old, 0, limit)
					if !ok || fresh.Live+old.Live+p.Create > s.Replicas+s.Surge || fresh.Avail+old.Avail-p.DropAvail < s.Replicas-s.Out {
						t.Fatalf("%v, limit %d: %v, %v: %v, %v", s, limit, fresh, old, p, ok)
					}
					fresh, old = stepped(p, fresh, old)
				}
				if fresh != up(limit) || old != up(s.Replicas-limit) {
					t.Fatalf("%v: with limit %d it stands at %v, %v", s, limit, fresh, old)
				}
			}
			if !impl.PlanOver(s, fresh, old, 0) {
				t.Fatalf("%v: not over", s)
			}
		}
	}
}

// chanceWalk plans step after step, where pods come up and go late, and some break.
func chanceWalk(t *testing.T, chance *rand.Rand, s impl.Spec) {
	fresh, old, going := up(0), up(s.Replicas), 0
	for range 60 {
		floor := min(s.Replicas-s.Out, fresh.Avail+old.Avail)
		p, ok := impl.PlanStep(s, fresh, old, going, 1+chance.Intn(s.Replicas))
		if !ok {
			t.Fatalf("%v: PlanStep of %v, %v, %d is refused", s, fresh, old, going)
		}
		made := p.Create
		p.Create = 0
		fresh, old = stepped(p, fresh, old)
		fresh.Live += made
		going += p.Drop + p.DropAvail + p.DropFresh
		if fresh.Live+old.Live+going > s.Replicas+s.Surge || fresh.Avail+old.Avail < floor {
			t.Fatalf("%v: %v, %v, %d behind %v", s, fresh, old, going, p)
		}
		going -= chance.Intn(going + 1)
		fresh.Avail += chance.Intn(fresh.Live - fresh.Avail + 1)
		if chance.Intn(4) == 0 {
			fresh.Avail -= chance.Intn(fresh.Avail + 1)
			old.Avail -= chance.Intn(old.Avail + 1)
		}
	}
}

func TestNeverAboveTheCeilingNorBelowTheFloor(t *testing.T) {
	chance := rand.New(rand.NewSource(77))
	for _, s := range smallSpecs(impl.MaxReplicas) {
		for range 20 {
			chanceWalk(t, chance, s)
		}
	}
}

func TestPlannersWriteIntoNoFleet(t *testing.T) {
	f, piece := roomyFleet(13)
	for _, s := range []impl.Spec{impl.DefaultSpec(), canary(1, 1, 2)} {
		impl.CountOf(s, f, 2, top)
		impl.RestOf(s, f, 2, top)
		impl.Baked(s, f, 2, top)
	}
	if !slices.Equal(piece, manyPods(20)) {
		t.Errorf("the pods were written into")
	}
}
