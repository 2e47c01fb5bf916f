package tests

import (
	"math"
	"math/rand"
	"slices"
	"strconv"
	"strings"
	"testing"

	"loop.example/g00734/impl"
)

// greatSpec has every number at the upper end of its bounds.
func greatSpec() impl.Spec {
	return impl.Spec{Replicas: 12, Surge: 12, Out: 12, MinReady: 1000, Retry: 20, Base: 10000, Cap: 10000, Stuck: 100000, Deadline: 100000, Canary: 12, Bake: 1000}
}

// leastSpec has every number at the lower end of its bounds, but for Out, as Surge is 0.
func leastSpec() impl.Spec {
	return impl.Spec{Replicas: 1, Out: 1, Base: 1, Cap: 1, Stuck: 1, Deadline: 1}
}

// specWith is the default with one change.
func specWith(change func(s *impl.Spec)) impl.Spec {
	s := impl.DefaultSpec()
	change(&s)
	return s
}

// specFields are the numbers of a spec in the order of the document.
func specFields(s *impl.Spec) []*int {
	return []*int{&s.Replicas, &s.Surge, &s.Out, &s.MinReady, &s.Retry, &s.Base, &s.Cap, &s.Stuck, &s.Deadline, &s.Canary, &s.Bake}
}

func goodSpecs() map[string]impl.Spec {
	return map[string]impl.Spec{
		"default":           impl.DefaultSpec(),
		"the least":         leastSpec(),
		"the greatest":      greatSpec(),
		"Replicas 1":        {Replicas: 1, Surge: 1, Base: 1, Cap: 2, Stuck: 3, Deadline: 4},
		"Replicas 12":       specWith(func(s *impl.Spec) { s.Replicas = 12 }),
		"Surge alone":       specWith(func(s *impl.Spec) { s.Out = 0 }),
		"Out alone":         specWith(func(s *impl.Spec) { s.Surge = 0 }),
		"Surge as Replicas": specWith(func(s *impl.Spec) { s.Surge = 4 }),
		"Out as Replicas":   specWith(func(s *impl.Spec) { s.Out = 4 }),
		"MinReady 0":        specWith(func(s *impl.Spec) { s.MinReady = 0 }),
		"MinReady 1":        specWith(func(s *impl.Spec) { s.MinReady = 1 }),
		"MinReady 1000":     specWith(func(s *impl.Spec) { s.MinReady = 1000 }),
		"Retry 0":           specWith(func(s *impl.Spec) { s.Retry = 0 }),
		"Retry 20":          specWith(func(s *impl.Spec) { s.Retry = 20 }),
		"Base 1":            specWith(func(s *impl.Spec) { s.Base = 1 }),
		"Base as Cap":       specWith(func(s *impl.Spec) { s.Base = 16 }),
		"Cap as Base":       specWith(func(s *impl.Spec) { s.Cap = 2 }),
		"Cap 10000":         specWith(func(s *impl.Spec) { s.Cap = 10000 }),
		"Cap no power":      specWith(func(s *impl.Spec) { s.Base, s.Cap = 3, 100 }),
		"Stuck 1":           specWith(func(s *impl.Spec) { s.Stuck = 1 }),
		"Stuck 100000":      specWith(func(s *impl.Spec) { s.Stuck = 100000 }),
		"Stuck as MinReady": specWith(func(s *impl.Spec) { s.Stuck = 3 }),
		"Deadline 1":        specWith(func(s *impl.Spec) { s.Deadline = 1 }),
		"Deadline 100000":   specWith(func(s *impl.Spec) { s.Deadline = 100000 }),
		"Canary 1":          specWith(func(s *impl.Spec) { s.Canary = 1 }),
		"Canary 4":          specWith(func(s *impl.Spec) { s.Canary = 4 }),
		"Bake 1000":         specWith(func(s *impl.Spec) { s.Bake = 1000 }),
	}
}

// badSpecs break one by one what the document says of a spec.
func badSpecs() map[string]impl.Spec {
	list := map[string]impl.Spec{
		"the zero value":         {},
		"Surge and Out 0":        specWith(func(s *impl.Spec) { s.Surge, s.Out = 0, 0 }),
		"Surge above Replicas":   specWith(func(s *impl.Spec) { s.Surge = 5 }),
		"Out above Replicas":     specWith(func(s *impl.Spec) { s.Out = 5 }),
		"Canary above Replicas":  specWith(func(s *impl.Spec) { s.Canary = 5 }),
		"Replicas below Surge":   specWith(func(s *impl.Spec) { s.Replicas, s.Surge = 1, 2 }),
		"Replicas below Out":     specWith(func(s *impl.Spec) { s.Replicas, s.Out = 1, 2 }),
		"Replicas below Canary":  specWith(func(s *impl.Spec) { s.Replicas, s.Canary = 1, 2 }),
		"Replicas 0":             specWith(func(s *impl.Spec) { s.Replicas = 0 }),
		"Replicas 0, all else 0": specWith(func(s *impl.Spec) { s.Replicas, s.Surge, s.Out = 0, 0, 0 }),
		"Replicas 13":            specWith(func(s *impl.Spec) { s.Replicas = 13 }),
		"Surge 13 of 13":         specWith(func(s *impl.Spec) { s.Replicas, s.Surge = 13, 13 }),
		"Surge -1":               specWith(func(s *impl.Spec) { s.Surge = -1 }),
		"Surge -1, Out 2":        specWith(func(s *impl.Spec) { s.Surge, s.Out = -1, 2 }),
		"Out -1":                 specWith(func(s *impl.Spec) { s.Out = -1 }),
		"MinReady -1":            specWith(func(s *impl.Spec) { s.MinReady = -1 }),
		"MinReady 1001":          specWith(func(s *impl.Spec) { s.MinReady = 1001 }),
		"Retry -1":               specWith(func(s *impl.Spec) { s.Retry = -1 }),
		"Retry 21":               specWith(func(s *impl.Spec) { s.Retry = 21 }),
		"Base 0":                 specWith(func(s *impl.Spec) { s.Base = 0 }),
		"Base above Cap":         specWith(func(s *impl.Spec) { s.Base = 17 }),
		"Base and Cap 0":         specWith(func(s *impl.Spec) { s.Base, s.Cap = 0, 0 }),
		"Base and Cap -1":        specWith(func(s *impl.Spec) { s.Base, s.Cap = -1, -1 }),
		"Cap below Base":         specWith(func(s *impl.Spec) { s.Cap = 1 }),
		"Cap 10001":              specWith(func(s *impl.Spec) { s.Cap = 10001 }),
		"Base and Cap 10001":     specWith(func(s *impl.Spec) { s.Base, s.Cap = 10001, 10001 }),
		"Stuck 0":                specWith(func(s *impl.Spec) { s.Stuck = 0 }),
		"Stuck 100001":           specWith(func(s *impl.Spec) { s.Stuck = 100001 }),
		"Deadline 0":             specWith(func(s *impl.Spec) { s.Deadline = 0 }),
		"Deadline 100001":        specWith(func(s *impl.Spec) { s.Deadline = 100001 }),
		"Canary -1":              specWith(func(s *impl.Spec) { s.Canary = -1 }),
		"Bake -1":                specWith(func(s *impl.Spec) { s.Bake = -1 }),
		"Bake 1001":              specWith(func(s *impl.Spec) { s.Bake = 1001 }),
	}
	for i := range 11 {
		for _, x := range []int{math.MinInt, math.MaxInt} {
			list["number "+strconv.Itoa(i)+" "+strconv.Itoa(x)] = specWith(func(s *impl.Spec) { *specFields(s)[i] = x })
		}
	}
	return list
}

// specOkBy asks the document's words one after the other.
func specOkBy(s impl.Spec) bool {
	ok := s.Replicas >= 1 && s.Replicas <= 12
	ok = ok && s.Surge >= 0 && s.Surge <= s.Replicas
	ok = ok && s.Out >= 0 && s.Out <= s.Replicas
	ok = ok && !(s.Surge == 0 && s.Out == 0)
	ok = ok && s.MinReady >= 0 && s.MinReady <= 1000
	ok = ok && s.Retry >= 0 && s.Retry <= 20
	ok = ok && s.Base >= 1 && s.Base <= s.Cap && s.Cap <= 10000
	ok = ok && s.Stuck >= 1 && s.Stuck <= 100000
	ok = ok && s.Deadline >= 1 && s.Deadline <= 100000
	ok = ok && s.Canary >= 0 && s.Canary <= s.Replicas
	return ok && s.Bake >= 0 && s.Bake <= 1000
}

func TestSpecOk(t *testing.T) {
	if impl.MaxReplicas != 12 {
		t.Errorf("MaxReplicas %d", impl.MaxReplicas)
	}
	for name, s := range goodSpecs() {
		if !impl.SpecOk(s) {
			t.Errorf("%s: not SpecOk", name)
		}
	}
	for name, s := range badSpecs() {
		if impl.SpecOk(s) {
			t.Errorf("%s: SpecOk", name)
		}
	}
}

// Each two numbers of a spec are tried at all the ends of all the bounds, and beside them.
func TestSpecOkAtEachTwoNumbers(t *testing.T) {
	ends := []int{math.MinInt, -1, 0, 1, 2, 4, 5, 11, 12, 13, 16, 17, 20, 21, 999, 1000, 1001, 9999, 10000, 10001, 99999, 100000, 100001, math.MaxInt}
	for _, base := range []impl.Spec{impl.DefaultSpec(), leastSpec(), greatSpec()} {
		for i := range 11 {
			for k := range 11 {
				for _, x := range ends {
					for _, y := range ends {
						s := base
						*specFields(&s)[i], *specFields(&s)[k] = x, y
						if impl.SpecOk(s) != specOkBy(s) {
							t.Errorf("SpecOk of %v: %v", s, impl.SpecOk(s))
						}
					}
				}
			}
		}
	}
}

func TestDefaultSpec(t *testing.T) {
	want := impl.Spec{Replicas: 4, Surge: 1, Out: 1, MinReady: 3, Retry: 3, Base: 2, Cap: 16, Stuck: 20, Deadline: 200, Canary: 0, Bake: 0}
	if got := impl.DefaultSpec(); got != want {
		t.Errorf("%v", got)
	}
}

// waitedBy is how long a pod stands so: 0 when now is ahead of its Since.
func waitedBy(p impl.Pod, now int) int { return max(now-p.Since, 0) }

func tickBy(x int) bool { return x >= 0 && x <= 1000000000 }

func availableBy(s impl.Spec, p impl.Pod, now int) bool {
	return specOkBy(s) && tickBy(now) && tickBy(p.Since) && p.State == 2 && waitedBy(p, now) >= s.MinReady
}

func lostBy(s impl.Spec, p impl.Pod, now int) bool {
	if !specOkBy(s) || !tickBy(now) {
		return false
	}
	return p.State == 3 || (p.State == 0 || p.State == 1) && tickBy(p.Since) && waitedBy(p, now) >= s.Stuck
}

// The columns are the ticks 9, 10, 12, 13, 29, 30 and MaxTick; a is available, l is lost.
func TestEachStateAtEachTick(t *testing.T) {
	want := [5]string{".....ll", ".....ll", "...aaaa", "lllllll", "......."}
	for state, row := range want {
		p := impl.Pod{Id: 1, Rev: 2, State: state, Since: 10}
		for i, now := range []int{9, 10, 12, 13, 29, 30, top} {
			available, lost := impl.IsAvailable(impl.DefaultSpec(), p, now), impl.IsLost(impl.DefaultSpec(), p, now)
			if available != (row[i] == 'a') || lost != (row[i] == 'l') {
				t.Errorf("State %d at %d: %v, %v", state, now, available, lost)
			}
		}
	}
}

// With MinReady 0 a ready pod counts at once, and even at a tick ahead of its Since, as it has waited 0 there too.
func TestMinReadyOf0(t *testing.T) {
	s := specWith(func(s *impl.Spec) { s.MinReady = 0 })
	for _, since := range edgeTicks() {
		p := impl.Pod{Id: 1, Rev: 1, State: impl.PodReady, Since: since}
		for _, now := range edgeTicks() {
			if !impl.IsAvailable(s, p, now) || impl.IsLost(s, p, now) {
				t.Errorf("Since %d at %d: %v, %v", since, now, impl.IsAvailable(s, p, now), impl.IsLost(s, p, now))
			}
		}
		if got := impl.NextHealth(s, p); got != since {
			t.Errorf("NextHealth of Since %d = %d", since, got)
		}
		for _, now := range noTicks() {
			if impl.IsAvailable(s, p, now) {
				t.Errorf("Since %d is available at %d", since, now)
			}
		}
	}
	for _, since := range noTicks() {
		p := impl.Pod{Id: 1, Rev: 1, State: impl.PodReady, Since: since}
		if impl.IsAvailable(s, p, 5) || impl.NextHealth(s, p) != -1 {
			t.Errorf("Since %d is available", since)
		}
	}
}

// podsOfAllKinds have every State and none, every Since and none; what else they have is asked nowhere, so some have it bent.
func podsOfAllKinds() []impl.Pod {
	pods := []impl.Pod{}
	for _, state := range []int{math.MinInt, -1, 0, 1, 2, 3, 4, 5, math.MaxInt} {
		for _, since := range append(edgeTicks(), noTicks()...) {
			pods = append(pods, impl.Pod{Id: 3, Rev: 2, State: state, Gen: 1, Since: since}, impl.Pod{Id: -3, Rev: -2, State: state, Gen: -1, Since: since})
		}
	}
	return pods
}

func TestIsAvailableAndIsLost(t *testing.T) {
	for name, s := range goodSpecs() {
		for _, p := range podsOfAllKinds() {
			nows := append(edgeTicks(), noTicks()...)
			for _, wait := range []int{0, s.MinReady, s.Stuck, s.MinReady + s.Bake} {
				nows = append(nows, p.Since+wait-1, p.Since+wait, p.Since+wait+1)
			}
			for _, now := range nows {
				if got := impl.IsAvailable(s, p, now); got != availableBy(s, p, now) {
					t.Errorf("%s: IsAvailable of %v at %d = %v", name, p, now, got)
				}
				if got := impl.IsLost(s, p, now); got != lostBy(s, p, now) {
					t.Errorf("%s: IsLost of %v at %d = %v", name, p, now, got)
				}
				if impl.IsAvailable(s, p, now) && impl.IsLost(s, p, now) {
					t.Errorf("%s: %v is both at %d", name, p, now)
				}
			}
		}
	}
}

func TestHealthOfSpecsThatAreRefused(t *testing.T) {
	f := impl.Fleet{Pods: manyPods(30), Next: 31}
	for name, s := range badSpecs() {
		for _, p := range podsOfAllKinds() {
			for _, now := range []int{0, 13, 30, top, -1, top + 1} {
				if impl.IsAvailable(s, p, now) || impl.IsLost(s, p, now) {
					t.Errorf("%s: %v at %d: %v, %v", name, p, now, impl.IsAvailable(s, p, now), impl.IsLost(s, p, now))
				}
			}
			if got := impl.NextHealth(s, p); got != -1 {
				t.Errorf("%s: NextHealth of %v = %d", name, p, got)
			}
		}
		for _, n := range []int{math.MinInt, -1, 0, 1, 2, 20, math.MaxInt} {
			if got := impl.RetryWait(s, n); got != -1 {
				t.Errorf("%s: RetryWait of %d = %d", name, n, got)
			}
		}
		// No pod is either by such a spec, and the fleet is as it should be.
		if n, list := impl.AvailableOf(s, f, 0, top), impl.LostOf(s, f, top); n != 0 || len(list) != 0 {
			t.Errorf("%s: AvailableOf %d, LostOf %v", name, n, list)
		}
		if text, ok := impl.SpecText(s); ok || text != "" {
			t.Errorf("%s: SpecText %q, %v", name, text, ok)
		}
	}
}

// nextBy is Since and what the pod waits for, which may be above MaxTick.
func nextBy(s impl.Spec, p impl.Pod) int {
	if !specOkBy(s) || !tickBy(p.Since) || p.State < 0 || p.State > 3 {
		return -1
	}
	next := p.Since + []int{s.Stuck, s.Stuck, s.MinReady, 0}[p.State]
	if !tickBy(next) {
		return -1
	}
	return next
}

func TestNextHealth(t *testing.T) {
	for name, s := range goodSpecs() {
		pods := podsOfAllKinds()
		for state := impl.PodNew; state <= impl.PodGoing; state++ {
			for _, wait := range []int{s.MinReady, s.Stuck} {
				for _, since := range []int{top - wait - 1, top - wait, top - wait + 1} {
					pods = append(pods, impl.Pod{Id: 1, Rev: 1, State: state, Since: since})
				}
			}
		}
		for _, p := range pods {
			if got := impl.NextHealth(s, p); got != nextBy(s, p) {
				t.Errorf("%s: NextHealth of %v = %d, want %d", name, p, got, nextBy(s, p))
			}
		}
	}
}

func TestNextHealthAtTheLastTick(t *testing.T) {
	for _, c := range []struct{ state, since, want int }{
		{impl.PodNew, top - 21, top - 1},
		{impl.PodNew, top - 20, top},
		{impl.PodNew, top - 19, -1},
		{impl.PodNew, top, -1},
		{impl.PodRuns, top - 20, top},
		{impl.PodRuns, top - 19, -1},
		{impl.PodReady, top - 4, top - 1},
		{impl.PodReady, top - 3, top},
		{impl.PodReady, top - 2, -1},
		{impl.PodReady, top, -1},
		{impl.PodBroken, top, top},
		{impl.PodBroken, 0, 0},
		{impl.PodBroken, top + 1, -1},
		{impl.PodBroken, -1, -1},
		{impl.PodGoing, 0, -1},
		{impl.PodGoing, top, -1},
		{5, 10, -1},
		{-1, 10, -1},
	} {
		p := impl.Pod{Id: 1, Rev: 1, State: c.state, Since: c.since}
		if got := impl.NextHealth(impl.DefaultSpec(), p); got != c.want {
			t.Errorf("NextHealth of %v = %d, want %d", p, got, c.want)
		}
	}
}

// From its Since on a pod is neither until NextHealth, and one of both from there on; it never is where there is none.
func TestWhoBecomesEitherDoesSoAtNextHealth(t *testing.T) {
	for _, minReady := range []int{0, 1, 2, 7} {
		for _, stuck := range []int{1, 2, 7, 8} {
			s := specWith(func(s *impl.Spec) { s.MinReady, s.Stuck = minReady, stuck })
			for state := impl.PodNew; state <= impl.PodGoing; state++ {
				for _, since := range []int{0, 1, 50, top - 8, top - 7, top - 2, top - 1, top} {
					p := impl.Pod{Id: 1, Rev: 1, State: state, Since: since}
					next := impl.NextHealth(s, p)
					for now := since; now <= min(since+20, top); now++ {
						available, lost := impl.IsAvailable(s, p, now), impl.IsLost(s, p, now)
						if is := next != -1 && now >= next; (available || lost) != is || available && lost {
							t.Errorf("MinReady %d, Stuck %d: %v at %d: %v, %v; NextHealth %d", minReady, stuck, p, now, available, lost, next)
						}
					}
				}
			}
		}
	}
}

func TestAvailableOfAndLostOf(t *testing.T) {
	revs := []int{math.MinInt, -1, 0, 1, 2, 3, 4, 5, impl.MaxRev, impl.MaxRev + 1, math.MaxInt}
	for spec, s := range goodSpecs() {
		for name, f := range goodFleets() {
			for _, now := range append([]int{29, 30, 102, 103, 119, 120, 290}, append(edgeTicks(), noTicks()...)...) {
				lost := []int{}
				for _, p := range f.Pods {
					if lostBy(s, p, now) {
						lost = append(lost, p.Id)
					}
				}
				if got := impl.LostOf(s, f, now); !slices.Equal(got, lost) {
					t.Errorf("%s, %s: LostOf at %d = %v, want %v", spec, name, now, got, lost)
				}
				for _, rev := range revs {
					want := 0
					for _, p := range f.Pods {
						if (rev == 0 || rev == p.Rev) && availableBy(s, p, now) {
							want++
						}
					}
					if got := impl.AvailableOf(s, f, rev, now); got != want {
						t.Errorf("%s, %s: AvailableOf of %d at %d = %d, want %d", spec, name, rev, now, got, want)
					}
				}
			}
		}
	}
}

func TestAvailableOfEachRev(t *testing.T) {
	s, f := impl.DefaultSpec(), impl.Fleet{Next: 9}
	for i, rev := range []int{7, 8, 7, 8, 8} {
		f.Pods = append(f.Pods, impl.Pod{Id: i + 2, Rev: rev, State: impl.PodReady, Since: 10 + i})
	}
	for _, c := range []struct{ rev, now, want int }{
		{0, 12, 0}, {0, 13, 1}, {0, 14, 2}, {0, 15, 3}, {0, 16, 4}, {0, 17, 5}, {0, top, 5}, {0, top + 1, 0}, {0, -1, 0},
		{7, 13, 1}, {7, 17, 2}, {8, 13, 0}, {8, 17, 3}, {9, 17, 0}, {-1, 17, 0}, {1001, 17, 0},
	} {
		if got := impl.AvailableOf(s, f, c.rev, c.now); got != c.want {
			t.Errorf("AvailableOf of %d at %d = %d, want %d", c.rev, c.now, got, c.want)
		}
	}
	// Each state, Since 100: the new one and the one that runs are lost from 120 on, the broken one always.
	if got := impl.LostOf(s, eachState(), 119); !slices.Equal(got, []int{13}) {
		t.Errorf("LostOf at 119: %v", got)
	}
	if got := impl.LostOf(s, eachState(), 120); !slices.Equal(got, []int{10, 11, 13}) {
		t.Errorf("LostOf at 120: %v", got)
	}
}

func TestHealthOfFleetsThatAreRefused(t *testing.T) {
	for name, f := range badFleets() {
		for _, s := range []impl.Spec{impl.DefaultSpec(), leastSpec(), {}} {
			for _, now := range []int{0, 13, top, -1, top + 1} {
				for _, rev := range []int{0, 1, 7, -1, impl.MaxRev + 1} {
					if got := impl.AvailableOf(s, f, rev, now); got != -1 {
						t.Errorf("%s: AvailableOf of %d at %d = %d", name, rev, now, got)
					}
				}
				if got := impl.LostOf(s, f, now); len(got) != 0 {
					t.Errorf("%s: LostOf at %d = %v", name, now, got)
				}
			}
		}
	}
}

func TestRetryWait(t *testing.T) {
	for _, c := range []struct{ base, cap, n, want int }{
		{2, 16, 0, 0}, {2, 16, 1, 2}, {2, 16, 2, 4}, {2, 16, 3, 8}, {2, 16, 4, 16}, {2, 16, 5, 16}, {2, 16, 9, 16},
		{3, 100, 1, 3}, {3, 100, 6, 96}, {3, 100, 7, 100}, {3, 100, 8, 100},
		{5, 5, 0, 0}, {5, 5, 1, 5}, {5, 5, 2, 5}, {5, 5, 99, 5},
		{1, 1, 1, 1}, {1, 1, 2, 1}, {1, 10000, 14, 8192}, {1, 10000, 15, 10000}, {1, 10000, 16, 10000},
		{10000, 10000, 1, 10000}, {10000, 10000, 2, 10000}, {9999, 10000, 1, 9999}, {9999, 10000, 2, 10000},
		{1, 10000, 63, 10000}, {1, 10000, 64, 10000}, {1, 10000, 65, 10000}, {1, 10000, 66, 10000}, {1, 10000, 1000, 10000},
		{1, 10000, math.MaxInt - 1, 10000}, {1, 10000, math.MaxInt, 10000}, {7, 7, math.MaxInt, 7},
		{2, 16, -1, -1}, {2, 16, -2, -1}, {5, 5, -1, -1}, {2, 16, math.MinInt, -1},
	} {
		s := specWith(func(s *impl.Spec) { s.Base, s.Cap = c.base, c.cap })
		if got := impl.RetryWait(s, c.n); got != c.want {
			t.Errorf("Base %d, Cap %d: RetryWait of %d = %d, want %d", c.base, c.cap, c.n, got, c.want)
		}
	}
}

func TestRetryWaitOfEachBase(t *testing.T) {
	for base := 1; base <= 40; base++ {
		for _, greatest := range []int{base, base + 1, 2*base - 1, 2 * base, 2*base + 1, 777, 10000} {
			s := specWith(func(s *impl.Spec) { s.Base, s.Cap = base, greatest })
			for n := 1; n <= 40; n++ {
				if got, want := impl.RetryWait(s, n), min(base<<(n-1), greatest); got != want {
					t.Errorf("Base %d, Cap %d: RetryWait of %d = %d, want %d", base, greatest, n, got, want)
				}
			}
		}
	}
}

func TestSpecsAreReadAsTheyWereWritten(t *testing.T) {
	for name, s := range goodSpecs() {
		words := []string{}
		for _, x := range specFields(&s) {
			words = append(words, strconv.Itoa(*x))
		}
		text, ok := impl.SpecText(s)
		if !ok || text != strings.Join(words, " ") {
			t.Errorf("%s: SpecText %q, %v", name, text, ok)
		}
		if back, ok := impl.ParseSpec(text); !ok || back != s {
			t.Errorf("%s: ParseSpec of %q = %v, %v", name, text, back, ok)
		}
	}
	if text, _ := impl.SpecText(greatSpec()); text != "12 12 12 1000 20 10000 10000 100000 100000 12 1000" {
		t.Errorf("the greatest: %q", text)
	}
	if s, ok := impl.ParseSpec("10 2 3 4 5 6 70 80 90 7 8"); !ok || s != (impl.Spec{Replicas: 10, Surge: 2, Out: 3, MinReady: 4, Retry: 5, Base: 6, Cap: 70, Stuck: 80, Deadline: 90, Canary: 7, Bake: 8}) {
		t.Errorf("each number another: %v, %v", s, ok)
	}
}

func TestTextsOfNoSpec(t *testing.T) {
	good := "4 1 1 3 3 2 16 20 200 0 0"
	words := strings.Split(good, " ")
	texts := []string{
		"", " ", "4", "spec", "4 1 1 3 3 2 16 20 200 0", good + " 0", good + " 0 0", strings.Repeat("1 ", 5000),
		" " + good, good + " ", good + "\n", "\t" + good, good + "\x00", "4,1,1,3,3,2,16,20,200,0,0", "4\t1 1 3 3 2 16 20 200 0 0",
		"4  1 1 3 3 2 16 20 200 0 0", "4  1 3 3 2 16 20 200 0 0", "4 1 1 3 3 2 16 20 200 0 ", " 1 1 3 3 2 16 20 200 0 0",
		strings.Repeat(" ", 10), strings.Repeat("0 ", 10) + "0", strings.Repeat("1", 100000),
		"4 0 0 3 3 2 16 20 200 0 0", "4 1 1 3 3 17 16 20 200 0 0", "0 0 0 3 3 2 16 20 200 0 0", "13 1 1 3 3 2 16 20 200 0 0",
	}
	for i := range words {
		for _, word := range []string{
			"", "-1", "+" + words[i], "-" + words[i], "0" + words[i], "00", "-0", words[i] + ".0", words[i] + "x", "x", "0x1", "1e1", "1_0",
			"٤", words[i] + "\u00a0", "99999999999999999999", "-99999999999999999999", strconv.Itoa(math.MaxInt), strconv.Itoa(math.MinInt), "100001",
			"18446744073709551616", "18446744073709551617",
		} {
			bent := slices.Clone(words)
			bent[i] = word
			texts = append(texts, strings.Join(bent, " "))
		}
		texts = append(texts, strings.Join(slices.Delete(slices.Clone(words), i, i+1), " "))
	}
	for _, s := range badSpecs() {
		words := []string{}
		for _, x := range specFields(&s) {
			words = append(words, strconv.Itoa(*x))
		}
		texts = append(texts, strings.Join(words, " "))
	}
	for _, text := range texts {
		if s, ok := impl.ParseSpec(text); ok || s != (impl.Spec{}) {
			t.Errorf("ParseSpec of %.80q = %v, %v", text, s, ok)
		}
	}
}

// Texts that are bent by chance are read just when they are written so.
func TestParseSpecByChance(t *testing.T) {
	chance := rand.New(rand.NewSource(6))
	letters := "0123456789  -+x"
	for range 60000 {
		s := impl.Spec{}
		for _, x := range specFields(&s) {
			*x = chance.Intn(12)
		}
		if chance.Intn(2) == 0 {
			s = impl.DefaultSpec()
		}
		text, ok := impl.SpecText(s)
		if ok != specOkBy(s) {
			t.Fatalf("SpecText of %v = %q, %v", s, text, ok)
		}
		b := []byte(text)
		for range chance.Intn(3) {
			if len(b) > 0 {
				b[chance.Intn(len(b))] = letters[chance.Intn(len(letters))]
			}
		}
		back, ok := impl.ParseSpec(string(b))
		again, written := impl.SpecText(back)
		if ok && (!written || again != string(b)) || !ok && (back != (impl.Spec{}) || textOkBy(string(b))) {
			t.Fatalf("ParseSpec of %q = %v, %v", b, back, ok)
		}
	}
}

// textOkBy is whether the text is that of a spec: digits without needless noughts, a blank between each two, all in bounds.
func textOkBy(text string) bool {
	words := strings.Split(text, " ")
	if len(words) != 11 {
		return false
	}
	s := impl.Spec{}
	for i, x := range specFields(&s) {
		if words[i] == "" || strings.Trim(words[i], "0123456789") != "" || words[i][0] == '0' && words[i] != "0" {
			return false
		}
		*x, _ = strconv.Atoi(words[i])
	}
	return specOkBy(s)
}

func TestHealthWritesIntoNoFleet(t *testing.T) {
	f, piece := roomyFleet(13)
	s := impl.DefaultSpec()
	first := impl.LostOf(s, f, top)
	kept := slices.Clone(first)
	impl.AvailableOf(s, f, 0, top)
	if !slices.Equal(piece, manyPods(20)) {
		t.Errorf("the pods were written into")
	}
	second := impl.LostOf(s, f, top)
	for i := range second[:cap(second)] {
		second[:cap(second)][i] = -7
	}
	if !slices.Equal(first, kept) || !slices.Equal(first, []int{1, 2, 4, 6, 7, 9, 11, 12}) {
		t.Errorf("LostOf: %v, then %v", kept, first)
	}
}
