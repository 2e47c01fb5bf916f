package tests

import (
	"math"
	"math/rand"
	"slices"
	"strconv"
	"testing"

	"loop.example/g00734/impl"
)

func sameFleets(a, b impl.Fleet) bool { return a.Next == b.Next && slices.Equal(a.Pods, b.Pods) }

func fleetCopy(f impl.Fleet) impl.Fleet {
	return impl.Fleet{Pods: slices.Clone(f.Pods), Next: f.Next}
}

// manyPods have the Ids from 1 on, all states and several Revs.
func manyPods(n int) []impl.Pod {
	pods := []impl.Pod{}
	for i := range n {
		pods = append(pods, impl.Pod{Id: i + 1, Rev: 1 + i*7%4, State: i % 5, Gen: i % 3, Since: 10 * i})
	}
	return pods
}

// eachState has one pod for each State, with the Id 10 more than it, and Gen 5.
func eachState() impl.Fleet {
	f := impl.Fleet{Next: 20}
	for state := impl.PodNew; state <= impl.PodGoing; state++ {
		f.Pods = append(f.Pods, impl.Pod{Id: 10 + state, Rev: 3, State: state, Gen: 5, Since: 100})
	}
	return f
}

func goodFleets() map[string]impl.Fleet {
	return map[string]impl.Fleet{
		"new":               {Next: 1},
		"empty, not nil":    {Pods: []impl.Pod{}, Next: 1},
		"empty, later":      {Next: 500},
		"empty at the end":  {Next: top},
		"one":               {Pods: manyPods(1), Next: 2},
		"with gaps":         {Pods: []impl.Pod{{Id: 2, Rev: 5}, {Id: 9, Rev: 5}, {Id: 11, Rev: 4}}, Next: 40},
		"each state":        eachState(),
		"one less than all": {Pods: manyPods(impl.MaxPods - 1), Next: impl.MaxPods},
		"MaxPods":           {Pods: manyPods(impl.MaxPods), Next: impl.MaxPods + 1},
		"the least":         {Pods: []impl.Pod{{Id: 1, Rev: 1}}, Next: 2},
		"the greatest":      {Pods: []impl.Pod{{Id: top - 1, Rev: impl.MaxRev, State: impl.PodGoing, Gen: top, Since: top}}, Next: top},
		"first and last":    {Pods: []impl.Pod{{Id: 1, Rev: impl.MaxRev}, {Id: top - 1, Rev: 1}}, Next: top},
		"Next one less":     {Pods: []impl.Pod{{Id: 7, Rev: 9, Gen: 4}}, Next: top - 1},
	}
}

// badFleets break one by one what the document says of a fleet.
func badFleets() map[string]impl.Fleet {
	one := func(p impl.Pod) impl.Fleet { return impl.Fleet{Pods: []impl.Pod{p}, Next: 10} }
	amid := func(p impl.Pod) impl.Fleet {
		return impl.Fleet{Pods: []impl.Pod{{Id: 1, Rev: 1}, p, {Id: 3, Rev: 1}}, Next: 10}
	}
	last := func(p impl.Pod) impl.Fleet { return impl.Fleet{Pods: append(manyPods(3), p), Next: 10} }
	return map[string]impl.Fleet{
		"the zero value":       {},
		"Next 0":               {Pods: []impl.Pod{}},
		"Next below 0":         {Next: -1},
		"Next far below":       {Pods: manyPods(2), Next: math.MinInt},
		"Next above":           {Pods: manyPods(2), Next: top + 1},
		"Next far above":       {Next: math.MaxInt},
		"Id is Next":           {Pods: manyPods(3), Next: 3},
		"Id above Next":        {Pods: manyPods(3), Next: 2},
		"Id above Next, first": {Pods: []impl.Pod{{Id: 5, Rev: 1}}, Next: 1},
		"Id is MaxTick":        {Pods: []impl.Pod{{Id: top, Rev: 1}}, Next: top},
		"Id below Next above":  {Pods: []impl.Pod{{Id: top, Rev: 1}}, Next: top + 1},
		"Id 0":                 one(impl.Pod{Id: 0, Rev: 1}),
		"Id below 0":           one(impl.Pod{Id: -1, Rev: 1}),
		"out of order":         {Pods: []impl.Pod{{Id: 2, Rev: 1}, {Id: 1, Rev: 1}}, Next: 10},
		"out of order, last":   {Pods: []impl.Pod{{Id: 1, Rev: 1}, {Id: 3, Rev: 1}, {Id: 2, Rev: 1}}, Next: 10},
		"Id twice":             {Pods: []impl.Pod{{Id: 2, Rev: 1}, {Id: 2, Rev: 2}}, Next: 10},
		"Id twice, all alike":  {Pods: []impl.Pod{{Id: 2, Rev: 1}, {Id: 2, Rev: 1}}, Next: 10},
		"Id twice, apart":      {Pods: []impl.Pod{{Id: 2, Rev: 1}, {Id: 4, Rev: 1}, {Id: 2, Rev: 1}}, Next: 10},
		"too many":             {Pods: manyPods(impl.MaxPods + 1), Next: 99},
		"far too many":         {Pods: manyPods(2000), Next: 3000},
		"Rev 0":                amid(impl.Pod{Id: 2, Rev: 0}),
		"Rev below 0":          amid(impl.Pod{Id: 2, Rev: -1}),
		"Rev above":            amid(impl.Pod{Id: 2, Rev: impl.MaxRev + 1}),
		"State below":          amid(impl.Pod{Id: 2, Rev: 1, State: -1}),
		"State above":          amid(impl.Pod{Id: 2, Rev: 1, State: 5}),
		"Gen below":            last(impl.Pod{Id: 4, Rev: 1, Gen: -1}),
		"Gen above":            last(impl.Pod{Id: 4, Rev: 1, Gen: top + 1}),
		"Since below":          last(impl.Pod{Id: 4, Rev: 1, Since: -1}),
		"Since above":          last(impl.Pod{Id: 4, Rev: 1, Since: top + 1}),
	}
}

func TestFleetLimits(t *testing.T) {
	got := []int{impl.MaxPods, impl.MaxRev, impl.PodNew, impl.PodRuns, impl.PodReady, impl.PodBroken, impl.PodGoing,
		impl.RepTaken, impl.RepStale, impl.RepUnknown, impl.RepBad}
	if !slices.Equal(got, []int{30, 1000, 0, 1, 2, 3, 4, 0, 1, 2, 3}) {
		t.Errorf("%v", got)
	}
}

func TestFleetOk(t *testing.T) {
	for name, f := range goodFleets() {
		if !impl.FleetOk(f) {
			t.Errorf("%s: not FleetOk", name)
		}
	}
	for name, f := range badFleets() {
		if impl.FleetOk(f) {
			t.Errorf("%s: FleetOk", name)
		}
	}
}

// okBy asks the document's words one after the other.
func okBy(f impl.Fleet) bool {
	ok := len(f.Pods) <= 30 && f.Next >= 1 && f.Next <= 1000000000
	for i, p := range f.Pods {
		ok = ok && p.Id >= 1 && p.Id < f.Next && (i == 0 || f.Pods[i-1].Id < p.Id)
		ok = ok && p.Rev >= 1 && p.Rev <= 1000 && p.State >= 0 && p.State <= 4
		ok = ok && p.Gen >= 0 && p.Gen <= 1000000000 && p.Since >= 0 && p.Since <= 1000000000
	}
	return ok
}

func TestFleetOkOfAllShortFleets(t *testing.T) {
	for code := range 6 * 6 * 6 * 7 {
		f := impl.Fleet{Next: code%7 - 1}
		for rest := code / 7; rest > 0; rest /= 6 {
			f.Pods = append(f.Pods, impl.Pod{Id: rest%6 - 1, Rev: 1})
		}
		if impl.FleetOk(f) != okBy(f) {
			t.Errorf("FleetOk of %v: %v", f, impl.FleetOk(f))
		}
	}
}

func TestFleetsThatAreRefused(t *testing.T) {
	for name, f := range badFleets() {
		if got, id := impl.AddPod(f, 1, 1); id != 0 || !sameFleets(got, f) {
			t.Errorf("%s: AddPod = %v, %d", name, got, id)
		}
		for _, id := range []int{0, 1, 2, 3, 4, 5, top, -1} {
			if got, ok := impl.MarkGoing(f, id, 1); ok || !sameFleets(got, f) {
				t.Errorf("%s: MarkGoing of %d = %v, %v", name, id, got, ok)
			}
			for state := 1; state <= 4; state++ {
				r := impl.Report{Pod: id, Gen: 9, State: state}
				if got, code := impl.TakeReport(f, r, 1); code != impl.RepBad || !sameFleets(got, f) {
					t.Errorf("%s: TakeReport of %v = %v, %d", name, r, got, code)
				}
			}
			if p, ok := impl.FindPod(f, id); ok || p != (impl.Pod{}) {
				t.Errorf("%s: FindPod of %d = %v, %v", name, id, p, ok)
			}
		}
		for _, rev := range []int{0, 1, 7, -1} {
			for state := -2; state <= 5; state++ {
				if n := impl.CountPods(f, rev, state); n != -1 {
					t.Errorf("%s: CountPods of %d, %d = %d", name, rev, state, n)
				}
			}
		}
		if revs := impl.RevsOf(f); len(revs) != 0 {
			t.Errorf("%s: RevsOf = %v", name, revs)
		}
	}
}

func TestNewFleet(t *testing.T) {
	f := impl.NewFleet()
	if len(f.Pods) != 0 || f.Next != 1 || !impl.FleetOk(f) || impl.CountPods(f, 0, -1) != 0 || len(impl.RevsOf(f)) != 0 {
		t.Errorf("%v", f)
	}
}

func TestAddPod(t *testing.T) {
	for name, f := range goodFleets() {
		for _, rev := range []int{1, 2, impl.MaxRev - 1, impl.MaxRev} {
			for _, now := range edgeTicks() {
				want, id := fleetCopy(f), 0
				if len(f.Pods) < 30 && f.Next < top {
					id = f.Next
					want.Pods = append(want.Pods, impl.Pod{Id: id, Rev: rev, Since: now})
					want.Next++
				}
				got, gotId := impl.AddPod(f, rev, now)
				if gotId != id || !sameFleets(got, want) || !impl.FleetOk(got) {
					t.Errorf("%s: AddPod of %d at %d = %v, %d", name, rev, now, got, gotId)
				}
			}
			for _, now := range noTicks() {
				if got, id := impl.AddPod(f, rev, now); id != 0 || !sameFleets(got, f) {
					t.Errorf("%s: AddPod at %d = %v, %d", name, now, got, id)
				}
			}
		}
		for _, rev := range []int{math.MinInt, -1, 0, impl.MaxRev + 1, math.MaxInt} {
			if got, id := impl.AddPod(f, rev, 5); id != 0 || !sameFleets(got, f) {
				t.Errorf("%s: AddPod of Rev %d = %v, %d", name, rev, got, id)
			}
		}
	}
}

func TestMaxPodsAndOneMore(t *testing.T) {
	f := impl.NewFleet()
	for i := range 30 {
		next, id := impl.AddPod(f, 4, i)
		if id != i+1 || len(next.Pods) != i+1 || next.Next != i+2 {
			t.Fatalf("pod %d: %v, %d", i+1, next, id)
		}
		f = next
	}
	if got, id := impl.AddPod(f, 4, 99); id != 0 || !sameFleets(got, f) {
		t.Errorf("one more: %v, %d", got, id)
	}
	// Who goes has its place still; it is free when it is gone, and its number is not given again.
	going, _ := impl.MarkGoing(f, 7, 40)
	if got, id := impl.AddPod(going, 4, 99); id != 0 || !sameFleets(got, going) {
		t.Errorf("one more beside one that goes: %v, %d", got, id)
	}
	gone, _ := impl.TakeReport(going, impl.Report{Pod: 7, Gen: 1, State: 4}, 41)
	again, id := impl.AddPod(gone, 4, 99)
	if _, there := impl.FindPod(again, 7); id != 31 || len(again.Pods) != 30 || there || !impl.FleetOk(again) {
		t.Errorf("in place of one that is gone: %v, %d", again, id)
	}
}

func TestNextAtMaxTick(t *testing.T) {
	f := impl.Fleet{Next: top - 1}
	f, id := impl.AddPod(f, 1, top)
	if id != top-1 || f.Next != top || !impl.FleetOk(f) {
		t.Errorf("the last: %v, %d", f, id)
	}
	if got, id := impl.AddPod(f, 1, top); id != 0 || !sameFleets(got, f) {
		t.Errorf("behind the last: %v, %d", got, id)
	}
	f, code := impl.TakeReport(f, impl.Report{Pod: top - 1, Gen: 1, State: 4}, top)
	if got, id := impl.AddPod(f, 1, top); code != impl.RepTaken || id != 0 || !sameFleets(got, impl.Fleet{Next: top}) {
		t.Errorf("behind the last, which is gone: %v, %d", got, id)
	}
}

func TestMarkGoing(t *testing.T) {
	for name, f := range goodFleets() {
		for i, p := range f.Pods {
			for _, now := range edgeTicks() {
				want := fleetCopy(f)
				if p.State != impl.PodGoing {
					want.Pods[i].State, want.Pods[i].Since = impl.PodGoing, now
				}
				got, ok := impl.MarkGoing(f, p.Id, now)
				if ok != (p.State != impl.PodGoing) || !sameFleets(got, want) {
					t.Errorf("%s: MarkGoing of %d at %d = %v, %v", name, p.Id, now, got, ok)
				}
				if again, ok := impl.MarkGoing(got, p.Id, 77); ok || !sameFleets(again, got) {
					t.Errorf("%s: MarkGoing of %d again = %v, %v", name, p.Id, again, ok)
				}
			}
			for _, now := range noTicks() {
				if got, ok := impl.MarkGoing(f, p.Id, now); ok || !sameFleets(got, f) {
					t.Errorf("%s: MarkGoing of %d at %d = %v, %v", name, p.Id, now, got, ok)
				}
			}
		}
		for _, id := range []int{math.MinInt, -1, 0, 31, 33, 500, top, top + 1, math.MaxInt} {
			if got, ok := impl.MarkGoing(f, id, 5); ok || !sameFleets(got, f) {
				t.Errorf("%s: MarkGoing of %d = %v, %v", name, id, got, ok)
			}
		}
	}
}

// reportBy is the document's sentence on reports that are as they should be, at a fleet that is FleetOk.
func reportBy(f impl.Fleet, r impl.Report, now int) (impl.Fleet, int) {
	want := fleetCopy(f)
	i := slices.IndexFunc(f.Pods, func(p impl.Pod) bool { return p.Id == r.Pod })
	if i < 0 {
		return want, impl.RepUnknown
	}
	p := &want.Pods[i]
	if p.Gen >= r.Gen {
		return want, impl.RepStale
	}
	p.Gen = r.Gen
	if r.State == 4 {
		want.Pods = slices.Delete(want.Pods, i, i+1)
	} else if p.State != 4 && p.State != r.State {
		p.State, p.Since = r.State, now
	}
	return want, impl.RepTaken
}

// The rows are the States of a pod, the columns those of a report; going pods stay so, the rest is what is reported.
func TestEachReportAtEachPod(t *testing.T) {
	texts := [5][5]string{
		{"", "10@3 runs 200", "10@3 ready 200", "10@3 broken 200", ""},
		{"", "11@3 runs 100", "11@3 ready 200", "11@3 broken 200", ""},
		{"", "12@3 runs 200", "12@3 ready 100", "12@3 broken 200", ""},
		{"", "13@3 runs 200", "13@3 ready 200", "13@3 broken 100", ""},
		{"", "14@3 going 100", "14@3 going 100", "14@3 going 100", ""},
	}
	for state, row := range texts {
		for told := 1; told <= 4; told++ {
			r := impl.Report{Pod: 10 + state, Gen: 6, State: told}
			f, code := impl.TakeReport(eachState(), r, 200)
			p, there := impl.FindPod(f, r.Pod)
			if code != impl.RepTaken || there != (told != 4) || there && (impl.PodText(p) != row[told] || p.Gen != 6) {
				t.Errorf("%v at %d: %d, %v, %v", r, state, code, p, there)
			}
			rest := func(p impl.Pod) bool { return p.Id == r.Pod }
			if !slices.Equal(slices.DeleteFunc(fleetCopy(f).Pods, rest), slices.DeleteFunc(eachState().Pods, rest)) || f.Next != 20 {
				t.Errorf("%v at %d: the others are %v", r, state, f)
			}
			// Told twice, or an older one behind it: nothing changes.
			for gen := 1; gen <= 6; gen++ {
				for late := 1; late <= 4; late++ {
					want := impl.RepStale
					if told == 4 {
						want = impl.RepUnknown
					}
					got, code := impl.TakeReport(f, impl.Report{Pod: r.Pod, Gen: gen, State: late}, 300)
					if code != want || !sameFleets(got, f) {
						t.Errorf("%v, then Gen %d, State %d: %d, %v", r, gen, late, code, got)
					}
				}
			}
		}
	}
}

func TestTakeReport(t *testing.T) {
	for name, f := range goodFleets() {
		ids := []int{math.MinInt, -1, 0, 31, 500, top, top + 1, math.MaxInt}
		for _, p := range f.Pods {
			ids = append(ids, p.Id)
		}
		for _, id := range ids {
			for _, gen := range []int{1, 2, 3, 4, 5, 6, top - 1, top} {
				for state := 1; state <= 4; state++ {
					for _, now := range []int{0, 1, 100, top} {
						r := impl.Report{Pod: id, Gen: gen, State: state}
						want, code := reportBy(f, r, now)
						got, gotCode := impl.TakeReport(f, r, now)
						if gotCode != code || !sameFleets(got, want) || !impl.FleetOk(got) {
							t.Errorf("%s: TakeReport of %v at %d = %v, %d", name, r, now, got, gotCode)
						}
					}
				}
			}
		}
	}
}

// What is bad is so ahead of what is unknown or stale.
func TestReportsThatAreBad(t *testing.T) {
	bad := func(f impl.Fleet, r impl.Report, now int) {
		t.Helper()
		if got, code := impl.TakeReport(f, r, now); code != impl.RepBad || !sameFleets(got, f) {
			t.Errorf("TakeReport of %v at %d = %v, %d", r, now, got, code)
		}
	}
	for _, f := range goodFleets() {
		for _, id := range []int{-1, 0, 1, 2, 10, 14, 99, top - 1, top} {
			for _, gen := range []int{math.MinInt, -1, 0, top + 1, math.MaxInt} {
				for state := 1; state <= 4; state++ {
					bad(f, impl.Report{Pod: id, Gen: gen, State: state}, 5)
				}
			}
			for _, gen := range []int{1, 6, top} {
				for _, state := range []int{math.MinInt, -1, 0, 5, 6, math.MaxInt} {
					bad(f, impl.Report{Pod: id, Gen: gen, State: state}, 5)
				}
				for _, now := range noTicks() {
					bad(f, impl.Report{Pod: id, Gen: gen, State: 2}, now)
				}
			}
		}
	}
}

func TestTheLastGen(t *testing.T) {
	f, _ := impl.AddPod(impl.NewFleet(), 1, 0)
	f, code := impl.TakeReport(f, impl.Report{Pod: 1, Gen: top, State: 2}, 4)
	if p, _ := impl.FindPod(f, 1); code != impl.RepTaken || p.Gen != top || p.State != impl.PodReady {
		t.Errorf("%v, %d", p, code)
	}
	for _, gen := range []int{1, top - 1, top} {
		if got, code := impl.TakeReport(f, impl.Report{Pod: 1, Gen: gen, State: 4}, 5); code != impl.RepStale || !sameFleets(got, f) {
			t.Errorf("Gen %d behind the last: %v, %d", gen, got, code)
		}
	}
}

// Who goes stays so, at the tick at which it was marked, whatever is reported, until it is gone.
func TestWhoGoesStaysSoUntilItIsGone(t *testing.T) {
	for _, p := range eachState().Pods[:impl.PodGoing] {
		f, ok := impl.MarkGoing(eachState(), p.Id, 150)
		if !ok {
			t.Fatalf("%v is not marked", p)
		}
		gen := 5
		for now := 160; now < 190; now++ {
			gen++
			next, code := impl.TakeReport(f, impl.Report{Pod: p.Id, Gen: gen, State: 1 + now%3}, now)
			got, there := impl.FindPod(next, p.Id)
			want := impl.Pod{Id: p.Id, Rev: 3, State: impl.PodGoing, Gen: gen, Since: 150}
			if code != impl.RepTaken || !there || got != want {
				t.Fatalf("%v at %d: %v, %v, %d", p, now, got, there, code)
			}
			f = next
			if same, ok := impl.MarkGoing(f, p.Id, now); ok || !sameFleets(same, f) {
				t.Fatalf("%v at %d: marked again, %v", p, now, same)
			}
			if same, code := impl.TakeReport(f, impl.Report{Pod: p.Id, Gen: gen, State: 4}, now); code != impl.RepStale || !sameFleets(same, f) {
				t.Fatalf("%v at %d: gone by a report that is old, %v, %d", p, now, same, code)
			}
		}
		gone, code := impl.TakeReport(f, impl.Report{Pod: p.Id, Gen: gen + 1, State: 4}, 200)
		if _, there := impl.FindPod(gone, p.Id); code != impl.RepTaken || there || len(gone.Pods) != 4 || gone.Next != 20 {
			t.Errorf("%v is not gone: %v, %d", p, gone, code)
		}
		for state := 1; state <= 4; state++ {
			if same, code := impl.TakeReport(gone, impl.Report{Pod: p.Id, Gen: top, State: state}, 201); code != impl.RepUnknown || !sameFleets(same, gone) {
				t.Errorf("%v comes back: %v, %d", p, same, code)
			}
		}
	}
}

// Told in any order and any number of times, just those count that are newer than all ahead of them.
func TestAReportCountsOnceAndNoOlderOneBehindIt(t *testing.T) {
	chance := rand.New(rand.NewSource(5))
	for range 400 {
		f, _ := impl.AddPod(impl.NewFleet(), 2, 0)
		newest, state, since := 0, impl.PodNew, 0
		told := []impl.Report{}
		for now := 1; now <= 40; now++ {
			r := impl.Report{Pod: 1, Gen: 1 + chance.Intn(30), State: 1 + chance.Intn(3)}
			if len(told) > 0 && chance.Intn(3) == 0 {
				r = told[chance.Intn(len(told))]
			}
			told = append(told, r)
			want := impl.RepStale
			if r.Gen > newest {
				want, newest = impl.RepTaken, r.Gen
				if r.State != state {
					state, since = r.State, now
				}
			}
			next, code := impl.TakeReport(f, r, now)
			p, there := impl.FindPod(next, 1)
			if code != want || !there || p != (impl.Pod{Id: 1, Rev: 2, State: state, Gen: newest, Since: since}) {
				t.Fatalf("%v at %d: %v, %d; want Gen %d, State %d, Since %d", r, now, p, code, newest, state, since)
			}
			f = next
		}
	}
}

func TestFindPod(t *testing.T) {
	for name, f := range goodFleets() {
		for _, p := range f.Pods {
			if got, ok := impl.FindPod(f, p.Id); !ok || got != p {
				t.Errorf("%s: FindPod of %d = %v, %v", name, p.Id, got, ok)
			}
		}
		for _, id := range []int{math.MinInt, -1, 0, 8, 31, f.Next, top, math.MaxInt} {
			i := slices.IndexFunc(f.Pods, func(p impl.Pod) bool { return p.Id == id })
			if got, ok := impl.FindPod(f, id); i < 0 && (ok || got != (impl.Pod{})) {
				t.Errorf("%s: FindPod of %d = %v, %v", name, id, got, ok)
			}
		}
	}
}

func TestCountPods(t *testing.T) {
	revs := []int{math.MinInt, -1, 0, 1, 2, 3, 4, 5, impl.MaxRev, impl.MaxRev + 1, math.MaxInt}
	states := []int{math.MinInt, -2, -1, 0, 1, 2, 3, 4, 5, math.MaxInt}
	for name, f := range goodFleets() {
		for _, rev := range revs {
			for _, state := range states {
				want := 0
				for _, p := range f.Pods {
					if (rev == 0 || rev == p.Rev) && (state == -1 || state == p.State) {
						want++
					}
				}
				if got := impl.CountPods(f, rev, state); got != want {
					t.Errorf("%s: CountPods of %d, %d = %d, want %d", name, rev, state, got, want)
				}
			}
		}
	}
	f := impl.Fleet{Pods: manyPods(30), Next: 31}
	got := []int{impl.CountPods(f, 0, -1), impl.CountPods(f, 1, -1), impl.CountPods(f, 0, 0), impl.CountPods(f, 1, 0), impl.CountPods(f, 0, 4)}
	if !slices.Equal(got, []int{30, 8, 6, 2, 6}) {
		t.Errorf("of 30: %v", got)
	}
}

func TestRevsOf(t *testing.T) {
	for _, revs := range [][]int{{}, {1}, {1000}, {1000, 1}, {3, 2, 3, 2, 1}, {7, 7, 7}, {10, 9, 100, 99, 1000, 1, 2}} {
		f := impl.NewFleet()
		for _, rev := range revs {
			f, _ = impl.AddPod(f, rev, 0)
		}
		want := slices.Compact(slices.Sorted(slices.Values(revs)))
		if got := impl.RevsOf(f); !slices.Equal(got, want) {
			t.Errorf("RevsOf %v = %v", revs, got)
		}
	}
	// Those that go are pods still.
	if got := impl.RevsOf(impl.Fleet{Pods: []impl.Pod{{Id: 1, Rev: 9, State: impl.PodGoing}, {Id: 2, Rev: 4}}, Next: 3}); !slices.Equal(got, []int{4, 9}) {
		t.Errorf("with one that goes: %v", got)
	}
}

func TestPodText(t *testing.T) {
	names := []string{"new", "runs", "ready", "broken", "going"}
	for state, name := range names {
		for _, x := range []int{0, 1, 12, impl.MaxRev, top, -3, math.MinInt, math.MaxInt} {
			want := strconv.Itoa(x) + "@" + strconv.Itoa(x) + " " + name + " " + strconv.Itoa(x)
			if got := impl.PodText(impl.Pod{Id: x, Rev: x, State: state, Gen: 8, Since: x}); got != want {
				t.Errorf("PodText %q, want %q", got, want)
			}
		}
	}
	if got := impl.PodText(impl.Pod{Id: 12, Rev: 345, State: 2, Gen: 6, Since: 7000}); got != "12@345 ready 7000" {
		t.Errorf("PodText %q", got)
	}
	for _, state := range []int{math.MinInt, -1, 5, 6, math.MaxInt} {
		if got := impl.PodText(impl.Pod{Id: 1, Rev: 1, State: state}); got != "" {
			t.Errorf("PodText of State %d: %q", state, got)
		}
	}
}

// TestFleetByChance goes through many ops and holds, beside the fleet, what it must be by the document's words.
func TestFleetByChance(t *testing.T) {
	chance := rand.New(rand.NewSource(55))
	for run := range 120 {
		f := impl.NewFleet()
		for now := range 150 {
			id := 1 + chance.Intn(f.Next)
			want, got := fleetCopy(f), f
			switch op := chance.Intn(10); {
			case op < 3+run%3:
				rev := chance.Intn(5)
				if rev > 0 && len(f.Pods) < 30 {
					want.Pods = append(want.Pods, impl.Pod{Id: f.Next, Rev: rev, Since: now})
					want.Next++
				}
				got, _ = impl.AddPod(f, rev, now)
			case op < 7:
				i := slices.IndexFunc(want.Pods, func(p impl.Pod) bool { return p.Id == id })
				if i >= 0 && want.Pods[i].State != impl.PodGoing {
					want.Pods[i].State, want.Pods[i].Since = impl.PodGoing, now
				}
				got, _ = impl.MarkGoing(f, id, now)
			default:
				r := impl.Report{Pod: id, Gen: 1 + chance.Intn(6), State: 1 + chance.Intn(4)}
				want, _ = reportBy(f, r, now)
				got, _ = impl.TakeReport(f, r, now)
			}
			if !sameFleets(got, want) || !impl.FleetOk(got) {
				t.Fatalf("run %d, tick %d: %v, want %v", run, now, got, want)
			}
			f = got
		}
	}
}

// roomyFleet has room behind its pods, so that what is appended in place shows in its piece of memory.
func roomyFleet(next int) (impl.Fleet, []impl.Pod) {
	piece := manyPods(20)
	return impl.Fleet{Pods: piece[:12], Next: next}, piece
}

// fleetAnswers are the fleets of every function that answers one, done and refused.
func fleetAnswers(f impl.Fleet) []impl.Fleet {
	list := []impl.Fleet{impl.NewFleet()}
	for _, rev := range []int{1, 0} {
		a, _ := impl.AddPod(f, rev, 3)
		b, _ := impl.MarkGoing(f, 1+rev*99, 3)
		list = append(list, a, b)
	}
	for _, r := range []impl.Report{{Pod: 1, Gen: 9, State: 2}, {Pod: 4, Gen: 9, State: 4}, {Pod: 5, Gen: 9, State: 3}, {Pod: 99, Gen: 9, State: 2}, {Pod: 3, Gen: 1, State: 2}, {Pod: 3}} {
		c, _ := impl.TakeReport(f, r, 3)
		list = append(list, c)
	}
	return list
}

func TestFleetsAreNotWrittenIntoNorShared(t *testing.T) {
	// Next 5 makes a fleet that is not FleetOk.
	for _, next := range []int{13, 5, top} {
		f, piece := roomyFleet(next)
		answers, kept := fleetAnswers(f), []impl.Fleet{}
		for _, a := range answers {
			kept = append(kept, fleetCopy(a))
		}
		impl.FindPod(f, 3)
		impl.CountPods(f, 0, -1)
		revs := impl.RevsOf(f)
		if !slices.Equal(piece, manyPods(20)) {
			t.Errorf("Next %d: the pods were written into", next)
		}
		for i := range piece {
			piece[i] = impl.Pod{Id: -7}
		}
		for i, a := range answers {
			if !sameFleets(a, kept[i]) {
				t.Errorf("Next %d: answer %d shares memory with its argument", next, i)
			}
			for k := range a.Pods[:cap(a.Pods)] {
				a.Pods[:cap(a.Pods)][k] = impl.Pod{Id: -8}
			}
			for k := i + 1; k < len(answers); k++ {
				if !sameFleets(answers[k], kept[k]) {
					t.Errorf("Next %d: answers %d and %d share memory", next, i, k)
				}
			}
		}
		if next != 5 && !slices.Equal(revs, []int{1, 2, 3, 4}) {
			t.Errorf("Next %d: RevsOf %v", next, revs)
		}
	}
}
