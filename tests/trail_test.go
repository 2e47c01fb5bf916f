package tests

import (
	"math"
	"slices"
	"strconv"
	"strings"
	"testing"

	"loop.example/g00734/impl"
)

// verdictOf has a letter for each check that does not hold: b OneBack, g GoodOnly, c CreatedOnce, q QuietAfter.
func verdictOf(events []impl.Event) string {
	broken := ""
	for i, kept := range []bool{impl.OneBack(events), impl.GoodOnly(events), impl.CreatedOnce(events), impl.QuietAfter(events)} {
		if !kept {
			broken += "bgcq"[i : i+1]
		}
	}
	return broken
}

type verdict struct {
	name   string
	broken string
	events []impl.Event
}

func told(events ...impl.Event) []impl.Event { return events }

func checkVerdicts(t *testing.T, list []verdict) {
	t.Helper()
	for _, v := range list {
		if got := verdictOf(v.events); got != v.broken {
			t.Errorf("%s: %v breaks %q, should %q", v.name, v.events, got, v.broken)
		}
	}
}

// others are events of no Kind that there is, with the numbers of a Phase.
func others() []impl.Event {
	list := []impl.Event{}
	for _, kind := range []int{-1, 5, 6, 99, math.MinInt, math.MaxInt} {
		for _, a := range []int{0, 1, 2, 3, -1, math.MinInt, math.MaxInt} {
			list = append(list, impl.Event{Kind: kind, A: a, B: 2})
		}
	}
	return list
}

func TestTrailsThatAreFine(t *testing.T) {
	checkVerdicts(t, []verdict{
		{"nil", "", nil},
		{"empty", "", []impl.Event{}},
		{"only others", "", others()},
		{"a rollout", "", told(made(1, 1), made(2, 1), phaseIs(1, 2), dropped(1, 1), made(3, 2), dropped(2, 1), made(4, 2), goodIs(2, 1), phaseIs(0, 2))},
		{"a way back", "", told(made(1, 1), phaseIs(1, 2), made(2, 2), dropped(2, 2), failed(2, 1), phaseIs(2, 1), phaseIs(3, 1))},
		{"an edit amid", "", told(phaseIs(1, 2), made(1, 2), phaseIs(1, 3), dropped(1, 2), made(2, 3), goodIs(3, 1), phaseIs(0, 3))},
		{"out of PhaseDegraded", "", told(phaseIs(1, 2), failed(2, 2), phaseIs(2, 1), failed(1, 2), phaseIs(3, 1), phaseIs(1, 3), made(1, 3), goodIs(3, 1), phaseIs(0, 3))},
	})
}

func TestOneBack(t *testing.T) {
	rolls, back, idle := phaseIs(1, 2), phaseIs(2, 1), phaseIs(0, 2)
	checkVerdicts(t, []verdict{
		{"one, no edit", "", told(back)},
		{"two, no edit", "b", told(back, back)},
		{"one ahead of the first edit", "", told(back, rolls)},
		{"two ahead of the first edit", "b", told(back, back, rolls)},
		{"one behind the last edit", "", told(rolls, back)},
		{"two behind the last edit", "b", told(rolls, rolls, back, back)},
		{"two between two edits", "b", told(rolls, back, back, rolls)},
		{"two with an edit between", "", told(rolls, back, rolls, back)},
		{"one in each place", "", told(back, rolls, back, rolls, back, rolls, back)},
		{"one in each place but two in the last", "b", told(back, rolls, back, rolls, back, rolls, back, back)},
		{"one in each place but two in the second", "b", told(back, rolls, back, back, rolls, back, rolls, back)},
		{"three", "b", told(rolls, back, back, back)},
		{"two to other Targets", "b", told(rolls, phaseIs(2, 1), phaseIs(2, 7))},
		{"an edit to another", "", told(back, phaseIs(1, -7), back)},
		{"two with PhaseIdle between", "b", told(rolls, back, idle, back)},
		{"two with PhaseDegraded between", "bq", told(rolls, back, phaseIs(3, 1), back)},
		{"two with a failure of 1 between", "b", told(rolls, back, failed(1, 1), back)},
		{"two with pod 1 between", "b", told(rolls, back, made(1, 1), back)},
		{"two with others between", "b", append(append(told(back), others()...), back)},
		{"two with Phases between that are none", "b", told(back, phaseIs(-1, 1), phaseIs(4, 1), phaseIs(math.MinInt, 1), phaseIs(math.MaxInt, 1), back)},
		{"pod 2 and a failure of 2 are no ways back", "", told(rolls, back, made(2, 1), dropped(2, 1), dropped(2, 1), failed(2, 1), failed(2, 2))},
		{"others are no ways back", "", append(told(back), others()...)},
	})
}

// A good one between two phases: behind its PhaseRolls with none of Kind 2 between, and right ahead of its PhaseIdle.
func TestGoodOnly(t *testing.T) {
	rolls, good, idle := phaseIs(1, 2), goodIs(2, 1), phaseIs(0, 2)
	list := []verdict{
		{"between its phases", "", told(rolls, good, idle)},
		{"with all else ahead of it", "", told(rolls, made(1, 2), made(2, 2), dropped(1, 2), failed(2, 1), impl.Event{Kind: 9, A: 1}, good, idle)},
		{"with more behind it", "", told(rolls, good, idle, made(1, 2), rolls, idle)},
		{"no Kind 2 ahead", "g", told(good, idle)},
		{"only commands ahead", "g", told(made(1, 2), good, idle)},
		{"PhaseRolls only behind", "g", told(good, idle, rolls)},
		{"PhaseIdle ahead", "g", told(idle, good, idle)},
		{"PhaseBack ahead", "g", told(phaseIs(2, 2), good, idle)},
		{"PhaseDegraded ahead", "gq", told(phaseIs(3, 2), good, idle)},
		{"a Phase that is none ahead", "g", told(phaseIs(4, 2), good, idle)},
		{"PhaseRolls for another", "g", told(phaseIs(1, 3), good, idle)},
		{"PhaseRolls for the one that was", "g", told(phaseIs(1, 1), good, idle)},
		{"an edit to another between", "g", told(rolls, phaseIs(1, 3), good, idle)},
		{"an edit to another and again", "", told(rolls, phaseIs(1, 3), rolls, good, idle)},
		{"a way back between", "g", told(rolls, phaseIs(2, 1), good, idle)},
		{"PhaseIdle between", "g", told(rolls, idle, good, idle)},
		{"a Phase that is none between", "g", told(rolls, phaseIs(-1, 2), good, idle)},
		{"the last of all", "g", told(rolls, good)},
		{"the only one", "g", told(good)},
		{"PhaseIdle for another", "g", told(rolls, good, phaseIs(0, 1))},
		{"PhaseRolls behind", "g", told(rolls, good, rolls)},
		{"PhaseBack behind", "g", told(rolls, good, phaseIs(2, 2))},
		{"PhaseDegraded behind", "g", told(rolls, good, phaseIs(3, 2))},
		{"a Phase that is none behind", "g", told(rolls, good, phaseIs(-1, 2), idle)},
		{"two, one behind the other", "g", told(rolls, good, good, idle)},
		{"two, each between its phases", "", told(rolls, good, idle, phaseIs(1, 1), goodIs(1, 2), phaseIs(0, 1))},
		{"two of one rollout", "g", told(rolls, good, idle, good, idle)},
		{"two, only the second between its phases", "g", told(good, idle, rolls, good, idle)},
		{"two, only the first between its phases", "g", told(rolls, good, idle, rolls, good)},
		{"the one that was is not asked", "", told(rolls, goodIs(2, 2), idle, rolls, goodIs(2, -9), idle, rolls, goodIs(2, math.MaxInt), idle)},
		{"revision 0", "", told(phaseIs(1, 0), goodIs(0, 0), phaseIs(0, 0))},
		{"revision 0, none ahead", "g", told(goodIs(0, 0), phaseIs(0, 0))},
		{"below 0", "", told(phaseIs(1, math.MinInt), goodIs(math.MinInt, 1), phaseIs(0, math.MinInt))},
		{"the size below 0", "g", told(phaseIs(1, -2), good, idle)},
	}
	for _, e := range append(others(), made(1, 2), failed(2, 1)) {
		name := strconv.Itoa(e.Kind) + ", " + strconv.Itoa(e.A)
		list = append(list, verdict{"Kind " + name + " between it and PhaseIdle", "g", told(rolls, good, e, idle)})
		list = append(list, verdict{"Kind " + name + " in place of PhaseRolls", "g", told(e, good, idle)})
	}
	list = append(list, verdict{"a deleted pod between it and PhaseIdle", "g", told(made(1, 1), rolls, good, dropped(1, 1), idle)})
	checkVerdicts(t, list)
}

func TestCreatedOnce(t *testing.T) {
	least, most := math.MinInt, math.MaxInt
	checkVerdicts(t, []verdict{
		{"one", "", told(made(1, 1))},
		{"rising", "", told(made(1, 1), made(2, 1), made(3, 1))},
		{"rising with gaps", "", told(made(4, 1), made(9, 1), made(1000, 1))},
		{"rising from below 0", "", told(made(least, 1), made(-3, 1), made(-2, 1), made(0, 1), made(most, 1))},
		{"only 0", "", told(made(0, 1), dropped(0, 1))},
		{"twice", "c", told(made(1, 1), made(1, 1))},
		{"twice, of other revisions", "c", told(made(1, 1), made(1, 2))},
		{"twice with one between", "c", told(made(1, 1), made(2, 1), made(1, 1))},
		{"twice, deleted between", "c", told(made(1, 1), dropped(1, 1), made(1, 1))},
		{"twice across an edit", "c", told(made(1, 1), phaseIs(1, 2), made(1, 2))},
		{"the last twice", "c", told(made(1, 1), made(2, 1), made(2, 1))},
		{"0 twice", "c", told(made(0, 1), made(0, 1))},
		{"falling", "c", told(made(2, 1), made(1, 1))},
		{"one of them falls", "c", told(made(1, 1), made(3, 1), made(2, 1), made(4, 1))},
		{"falling below 0", "c", told(made(-2, 1), made(-3, 1))},
		{"from the greatest to the least", "c", told(made(most, 1), made(least, 1))},
		{"deleted", "", told(made(1, 1), made(2, 1), dropped(2, 1), dropped(1, 1), made(3, 1), dropped(3, 1))},
		{"deleted once more", "", told(made(1, 1), dropped(1, 1), made(2, 1), dropped(1, 1), dropped(1, 1))},
		{"deleted as of another revision", "", told(made(1, 1), dropped(1, 7))},
		{"deleted, and nothing created", "c", told(dropped(1, 1))},
		{"0 deleted, and nothing created", "c", told(dropped(0, 0))},
		{"never created", "c", told(made(1, 1), dropped(2, 1))},
		{"never created, between two that were", "c", told(made(1, 1), made(3, 1), dropped(2, 1))},
		{"never created, the size below 0", "c", told(made(1, 1), dropped(-1, 1))},
		{"created only later", "c", told(dropped(1, 1), made(1, 1))},
		{"created only later, among others", "c", told(made(1, 1), dropped(1, 1), dropped(2, 1), made(2, 1))},
		{"a Phase of that number creates nothing", "c", told(phaseIs(1, 1), dropped(1, 1))},
		{"a failure of that number creates nothing", "c", told(failed(4, 1), dropped(4, 1))},
		{"others create nothing", "c", append(others(), dropped(1, 2))},
		{"others delete nothing and need not rise", "", told(made(5, 1), impl.Event{Kind: 5, A: 5}, impl.Event{Kind: -1, A: 5}, phaseIs(0, 1), phaseIs(0, 1), failed(5, 1), made(6, 1))},
	})
}

func TestQuietAfter(t *testing.T) {
	rolls, degraded := phaseIs(1, 2), phaseIs(3, 1)
	list := []verdict{
		{"the last of all", "", told(made(1, 1), degraded)},
		{"the edit behind", "", told(degraded, rolls)},
		{"all behind the edit", "", told(made(1, 1), degraded, rolls, made(2, 2), dropped(1, 1), goodIs(2, 1), phaseIs(0, 2), failed(2, 1))},
		{"a pod created", "q", told(degraded, made(1, 1))},
		{"a pod created, behind an edit ahead of it", "q", told(rolls, degraded, made(1, 1))},
		{"a pod created, the edit only behind that", "q", told(degraded, made(1, 1), rolls)},
		{"a pod deleted", "q", told(made(1, 1), degraded, dropped(1, 1))},
		{"PhaseIdle", "q", told(degraded, phaseIs(0, 1))},
		{"PhaseBack", "q", told(degraded, phaseIs(2, 1))},
		{"PhaseDegraded once more", "q", told(degraded, degraded)},
		{"PhaseDegraded once more, and an edit", "q", told(degraded, degraded, rolls)},
		{"a Phase that is none", "q", told(degraded, phaseIs(4, 1))},
		{"a good one", "gq", told(degraded, goodIs(2, 1))},
		{"a failure", "q", told(degraded, failed(2, 1))},
		{"a failure of 1 is no edit", "q", told(degraded, failed(1, 1))},
		{"an edit between two", "", told(degraded, rolls, degraded)},
		{"behind the second of two", "q", told(degraded, rolls, degraded, made(1, 1))},
		{"behind the second of two, between them another", "q", told(degraded, rolls, made(1, 2), degraded, made(2, 1), rolls)},
		{"two, each with an edit", "", told(degraded, rolls, made(1, 2), degraded, rolls, made(2, 2))},
		{"two edits", "", told(degraded, rolls, rolls, made(1, 2))},
		{"any edit", "", told(degraded, phaseIs(1, -5), made(1, 2))},
		{"pod 3 is no PhaseDegraded", "", told(made(3, 1), dropped(3, 1), made(4, 1))},
		{"nor is a failure of 3", "", told(failed(3, 1), made(4, 1))},
		{"nor are others", "", append(others(), made(1, 1))},
		{"nor is Target 3", "", told(phaseIs(0, 3), made(1, 1))},
	}
	for _, e := range others() {
		list = append(list, verdict{"another Kind", "q", told(degraded, e)})
	}
	checkVerdicts(t, list)
}

func TestBacksBetween(t *testing.T) {
	back, least, most := phaseIs(2, 1), math.MinInt, math.MaxInt
	events := told(back, phaseIs(1, 2), back, phaseIs(2, -7), impl.Event{Kind: 9, A: 2}, made(2, 1), failed(2, 1), goodIs(2, 1), phaseIs(3, 2), back)
	for _, c := range [][3]int{
		{0, 10, 4}, {0, 9, 3}, {1, 10, 3}, {1, 9, 2}, {2, 3, 1}, {3, 4, 1}, {2, 4, 2}, {4, 9, 0}, {9, 10, 1}, {0, 1, 1}, {1, 2, 0},
		{0, 11, 4}, {0, most, 4}, {9, 99, 1}, {-1, 10, 4}, {least, 10, 4}, {-5, 3, 2}, {least, most, 4}, {3, most, 2},
		{10, 11, 0}, {10, most, 0}, {99, 100, 0}, {most, most, 0}, {-9, -1, 0}, {-9, 0, 0}, {least, least, 0}, {least, -1, 0}, {least, 0, 0},
		{0, 0, 0}, {2, 2, 0}, {9, 9, 0}, {10, 10, 0}, {3, 2, 0}, {9, 0, 0}, {10, 0, 0}, {most, least, 0}, {0, -1, 0}, {0, least, 0}, {3, -1, 0}, {4, 2, 0},
	} {
		if got := impl.BacksBetween(events, c[0], c[1]); got != c[2] {
			t.Errorf("from %d to %d: %d, want %d", c[0], c[1], got, c[2])
		}
		if got := impl.BacksBetween(nil, c[0], c[1]); got != 0 {
			t.Errorf("of none, from %d to %d: %d", c[0], c[1], got)
		}
	}
}

func TestCommandsOf(t *testing.T) {
	least := math.MinInt
	for _, c := range []struct{ events, want []impl.Event }{
		{nil, nil},
		{[]impl.Event{}, nil},
		{told(phaseIs(1, 2), goodIs(2, 1), phaseIs(0, 2), failed(1, 1)), nil},
		{others(), nil},
		{told(made(1, 1)), told(made(1, 1))},
		{told(dropped(1, 1)), told(dropped(1, 1))},
		{told(made(2, 1), phaseIs(1, 2), dropped(1, 1), dropped(1, 1), failed(2, 1), made(1, 2), goodIs(2, 1)), told(made(2, 1), dropped(1, 1), dropped(1, 1), made(1, 2))},
		{told(phaseIs(0, 0), dropped(least, -1), made(0, least), phaseIs(1, 1)), told(dropped(least, -1), made(0, least))},
	} {
		if got := impl.CommandsOf(c.events); !slices.Equal(got, c.want) {
			t.Errorf("of %v: %v, want %v", c.events, got, c.want)
		}
	}
}

func TestRetriesOf(t *testing.T) {
	two := told(made(1, 1), made(2, 1))
	for _, c := range []struct {
		events []impl.Event
		want   int
	}{
		{nil, 0},
		{two, 0},
		{others(), 0},
		{append(told(dropped(1, 1)), two...), -1},
		{told(made(1, 1), dropped(1, 1)), 1},
		{told(made(1, 1), dropped(1, 1), dropped(1, 1)), 1},
		{told(made(1, 1), dropped(1, 1), dropped(1, 1), made(2, 1), dropped(1, 1)), 1},
		{told(made(1, 1), dropped(1, 1), dropped(1, 7)), 1},
		{told(made(1, 1), made(2, 1), dropped(2, 1), dropped(1, 1)), 2},
		{told(made(1, 1), made(2, 1), dropped(1, 1), dropped(2, 1), dropped(1, 1), dropped(2, 1), dropped(1, 1)), 2},
		{told(made(-4, 1), made(0, 1), dropped(0, 1), dropped(-4, 1), dropped(0, 1)), 2},
		{told(made(1, 1), phaseIs(1, 1), failed(1, 1), goodIs(1, 1), impl.Event{Kind: 5, A: 1}), 0},
		{told(dropped(1, 1)), -1},
		{told(made(1, 1), dropped(1, 1), dropped(2, 1)), -1},
		{told(made(1, 1), dropped(1, 1), made(1, 1)), -1},
		{told(made(2, 1), dropped(2, 1), made(1, 1)), -1},
		// What else is broken does not matter here.
		{told(phaseIs(2, 1), phaseIs(2, 1), phaseIs(3, 1), made(1, 1), goodIs(1, 1), dropped(1, 1)), 1},
	} {
		if got := impl.RetriesOf(c.events); got != c.want {
			t.Errorf("of %v: %d, want %d", c.events, got, c.want)
		}
	}
}

func marksOfPods(pods ...int) []impl.Mark {
	marks := []impl.Mark{}
	for _, n := range pods {
		marks = append(marks, impl.Mark{Now: 99, Phase: 99, Target: 99, Good: 99, Pods: n, Going: 99, Avail: 99, Top: 99})
	}
	return marks
}

func TestMostPods(t *testing.T) {
	full := slices.Repeat([]int{3}, impl.MaxOps-1)
	for _, c := range []struct {
		pods []int
		want int
	}{
		{nil, 0}, {[]int{0}, 0}, {[]int{7}, 7}, {[]int{7, 5, 6}, 7}, {[]int{5, 7, 6}, 7}, {[]int{5, 6, 7}, 7}, {[]int{4, 4}, 4}, {[]int{-5, -3, -9}, -3},
		{[]int{-3}, -3}, {[]int{math.MinInt}, math.MinInt}, {[]int{math.MinInt, math.MaxInt}, math.MaxInt},
		{append(slices.Clone(full), 9), 9}, {append([]int{9}, full...), 9}, {append(slices.Clone(full), 9, 3), -1}, {slices.Repeat([]int{0}, 201), -1}, {slices.Repeat([]int{8}, 999), -1},
	} {
		if got := impl.MostPods(marksOfPods(c.pods...)); got != c.want {
			t.Errorf("of %d Marks, %v: %d, want %d", len(c.pods), c.pods, got, c.want)
		}
	}
	if impl.MostPods(nil) != 0 || impl.MostPods([]impl.Mark{}) != 0 {
		t.Error("of none")
	}
}

// topped are Marks from pairs of Pods and Top.
func topped(pairs ...int) []impl.Mark {
	marks := []impl.Mark{}
	for i := 0; i < len(pairs); i += 2 {
		marks = append(marks, impl.Mark{Pods: pairs[i], Top: pairs[i+1]})
	}
	return marks
}

// The Ceiling of the spec is 5 here.
func TestCeilingKept(t *testing.T) {
	least, most := math.MinInt, math.MaxInt
	for _, c := range []struct {
		name  string
		marks []impl.Mark
		want  bool
	}{
		{"none", nil, true},
		{"just at the Ceiling", topped(5, 5), true},
		{"one above", topped(6, 5), false},
		{"Top below the Ceiling", topped(5, 2), true},
		{"Top below the Ceiling, one above", topped(6, 2), false},
		{"Top above the Ceiling", topped(8, 8), true},
		{"Top above the Ceiling, one above", topped(9, 8), false},
		{"Top falls", topped(8, 8, 8, 7, 8, 2, 8, 0), true},
		{"Top falls, one above", topped(8, 8, 8, 7, 9, 2), false},
		{"Top grows", topped(5, 5, 6, 6, 8, 8), true},
		{"Top grows, but only behind", topped(6, 5, 6, 6), false},
		{"Top grows and the second is above", topped(5, 5, 7, 6, 8, 8), false},
		{"Top falls and grows", topped(7, 7, 7, 6, 9, 9, 9, 3), true},
		{"Top falls and grows less", topped(7, 7, 7, 3, 8, 6), false},
		{"all Tops below the Ceiling", topped(5, 4, 5, 1, 5, -9, 5, least), true},
		{"all Tops below the Ceiling, the last above", topped(5, 4, 5, 1, 6, 3), false},
		{"the first above", topped(6, 4, 1, 1), false},
		{"no pods", topped(0, 0, 0, least), true},
		{"Pods below 0", topped(-1, -9, least, least), true},
		{"the greatest", topped(most, most, most, 0), true},
		{"the greatest, one below", topped(most, most-1), false},
		{"nothing else is asked", []impl.Mark{{Now: -1, Phase: 9, Target: -1, Good: -1, Pods: 5, Going: 99, Avail: 99, Top: 5}}, true},
		{"as many as MaxOps", slices.Repeat(topped(5, 5), impl.MaxOps), true},
		{"as many as MaxOps, the last above", append(slices.Repeat(topped(5, 5), impl.MaxOps-1), topped(6, 5)...), false},
		{"one more", slices.Repeat(topped(0, 5), impl.MaxOps+1), false},
		{"many more", slices.Repeat(topped(0, 5), 999), false},
	} {
		if got := impl.CeilingKept(impl.DefaultSpec(), c.marks); got != c.want {
			t.Errorf("%s: %v", c.name, got)
		}
	}
}

func TestCeilingKeptAsksForItsSpec(t *testing.T) {
	for name, s := range goodSpecs() {
		top := s.Replicas + s.Surge
		if !impl.CeilingKept(s, nil) || !impl.CeilingKept(s, topped(top, 0)) || impl.CeilingKept(s, topped(top+1, top)) || !impl.CeilingKept(s, topped(top+1, top+1)) {
			t.Errorf("%s: at its Ceiling %d", name, top)
		}
	}
	for name, s := range badSpecs() {
		if impl.CeilingKept(s, nil) || impl.CeilingKept(s, topped(0, 0)) || impl.CeilingKept(s, topped(1, 99)) || impl.CeilingKept(s, slices.Repeat(topped(0, 0), 201)) {
			t.Errorf("%s: is no spec", name)
		}
	}
}

// spec1 has one pod, that is available as soon as it is ready, and gives it up at once.
func spec1() impl.Spec {
	return specWith(func(s *impl.Spec) { s.Replicas, s.MinReady, s.Out, s.Retry = 1, 0, 0, 0 })
}

// marked is each op of a play with the Mark behind it.
type marked struct {
	op   impl.Op
	mark impl.Mark
}

func checkMarks(t *testing.T, s impl.Spec, rev int, list []marked) {
	t.Helper()
	ops, want := []impl.Op{}, []impl.Mark{}
	for _, m := range list {
		ops, want = append(ops, m.op), append(want, m.mark)
	}
	got, ok := impl.TrailOf(s, rev, ops)
	if !ok || !slices.Equal(got, want) {
		t.Errorf("%v\n%v, want\n%v", ok, got, want)
	}
}

func TestTrailOf(t *testing.T) {
	checkMarks(t, spec1(), 7, []marked{
		{impl.Op{Kind: 9}, impl.Mark{Target: 7, Good: 7, Top: 2}},
		{tickOp(1), impl.Mark{Now: 1, Target: 7, Good: 7, Pods: 1, Top: 2}},
		{reportOp(1, 1, 2), impl.Mark{Now: 1, Target: 7, Good: 7, Pods: 1, Avail: 1, Top: 2}},
		{editOp(8, 0), impl.Mark{Now: 1, Phase: 1, Target: 8, Good: 7, Pods: 2, Avail: 1, Top: 2}},
		{editOp(8, 13), impl.Mark{Now: 1, Phase: 1, Target: 8, Good: 7, Pods: 2, Avail: 1, Top: 2}},
		{reportOp(2, 1, 2), impl.Mark{Now: 1, Phase: 1, Target: 8, Good: 7, Pods: 2, Going: 1, Avail: 1, Top: 2}},
		{reportOp(1, 2, 4), impl.Mark{Now: 1, Target: 8, Good: 8, Pods: 1, Avail: 1, Top: 2}},
		{editOp(1000, 0), impl.Mark{Now: 1, Phase: 1, Target: 1000, Good: 8, Pods: 2, Avail: 1, Top: 2}},
		{reportOp(3, 1, 3), impl.Mark{Now: 1, Phase: 2, Target: 8, Good: 8, Pods: 2, Going: 1, Avail: 1, Top: 2}},
		{reportOp(3, 1, 3), impl.Mark{Now: 1, Phase: 2, Target: 8, Good: 8, Pods: 2, Going: 1, Avail: 1, Top: 2}},
		{reportOp(3, 2, 4), impl.Mark{Now: 1, Phase: 3, Target: 8, Good: 8, Pods: 1, Avail: 1, Top: 2}},
		{tickOp(2000), impl.Mark{Now: 2001, Phase: 3, Target: 8, Good: 8, Pods: 1, Avail: 1, Top: 2}},
		{tickOp(2001), impl.Mark{Now: 2001, Phase: 3, Target: 8, Good: 8, Pods: 1, Avail: 1, Top: 2}},
		{editOp(9, 3), impl.Mark{Now: 2001, Phase: 1, Target: 9, Good: 8, Pods: 4, Avail: 1, Top: 4}},
	})
	// Avail counts each Rev, and what goes no more; with fewer Replicas Top falls and the pods are still there.
	checkMarks(t, specWith(func(s *impl.Spec) { s.Replicas, s.MinReady, s.Out = 2, 5, 2 }), 1, []marked{
		{tickOp(0), impl.Mark{Target: 1, Good: 1, Pods: 2, Top: 3}},
		{reportOp(1, 1, 2), impl.Mark{Target: 1, Good: 1, Pods: 2, Top: 3}},
		{reportOp(2, 1, 2), impl.Mark{Target: 1, Good: 1, Pods: 2, Top: 3}},
		{tickOp(4), impl.Mark{Now: 4, Target: 1, Good: 1, Pods: 2, Top: 3}},
		{tickOp(1), impl.Mark{Now: 5, Target: 1, Good: 1, Pods: 2, Avail: 2, Top: 3}},
		{editOp(1, 4), impl.Mark{Now: 5, Phase: 1, Target: 1, Good: 1, Pods: 4, Avail: 2, Top: 5}},
		{editOp(2, 2), impl.Mark{Now: 5, Phase: 1, Target: 2, Good: 1, Pods: 4, Going: 4, Top: 3}},
	})
}

func wantNoTrail(t *testing.T, name string, s impl.Spec, rev int, ops []impl.Op) {
	t.Helper()
	if marks, ok := impl.TrailOf(s, rev, ops); ok || len(marks) != 0 {
		t.Errorf("%s: %v, %v", name, marks, ok)
	}
}

func TestTrailOfLimits(t *testing.T) {
	for _, o := range []impl.Op{tickOp(1), tickOp(-1), editOp(2, 0), {Kind: -1}} {
		for _, n := range []int{0, 1, impl.MaxOps - 1, impl.MaxOps} {
			marks, ok := impl.TrailOf(impl.DefaultSpec(), 1, manyOps(n, o))
			if !ok || len(marks) != n || !impl.CeilingKept(impl.DefaultSpec(), marks) {
				t.Errorf("%d times %v: %v, %v", n, o, marks, ok)
			}
		}
		for _, n := range []int{impl.MaxOps + 1, 999} {
			wantNoTrail(t, "too many ops", impl.DefaultSpec(), 1, manyOps(n, o))
		}
	}
	for name, s := range badSpecs() {
		wantNoTrail(t, name, s, 1, nil)
		wantNoTrail(t, name, s, 1, []impl.Op{tickOp(1)})
	}
	for _, rev := range []int{0, -1, 1001, math.MinInt, math.MaxInt} {
		wantNoTrail(t, "rev "+strconv.Itoa(rev), impl.DefaultSpec(), rev, nil)
		wantNoTrail(t, "rev "+strconv.Itoa(rev), impl.DefaultSpec(), rev, []impl.Op{tickOp(1)})
	}
	for _, rev := range []int{1, 1000} {
		marks, ok := impl.TrailOf(impl.DefaultSpec(), rev, []impl.Op{{Kind: 3}})
		if !ok || !slices.Equal(marks, []impl.Mark{{Target: rev, Good: rev, Top: 5}}) {
			t.Errorf("rev %d: %v, %v", rev, marks, ok)
		}
	}
}

// firstBy is the place of the first event that is wanted.
func firstBy(t *testing.T, events []impl.Event, wanted impl.Event) int {
	t.Helper()
	place := slices.Index(events, wanted)
	if place < 0 {
		t.Fatalf("no %v in %v", wanted, events)
	}
	return place
}

// The four plays that follow are the engine's own; each is fine as it stands, and with one event changed breaks just one rule.
func checkPlay(t *testing.T, g *tape, most int, retries int) []impl.Event {
	t.Helper()
	_, events, _ := g.play()
	marks, ok := impl.TrailOf(g.spec, g.rev, g.ops)
	if !ok || len(marks) != len(g.ops) || impl.MostPods(marks) != most || !impl.CeilingKept(g.spec, marks) {
		t.Errorf("%v, %v", marks, ok)
	}
	if got := verdictOf(events); got != "" || impl.RetriesOf(events) != retries {
		t.Errorf("%v: breaks %q, %d retries", events, got, impl.RetriesOf(events))
	}
	if commands := impl.CommandsOf(events); slices.ContainsFunc(commands, func(e impl.Event) bool { return e.Kind > 1 }) || verdictOf(commands) != "" {
		t.Errorf("commands %v", commands)
	}
	return events
}

func TestTheTrailOfARolloutThatComesToItsEnd(t *testing.T) {
	g := newTape(t, spec1(), 7).do(tickOp(1), made(1, 7)).ready(1).do(editOp(8, 0), phaseIs(1, 8), made(2, 8))
	g.do(reportOp(2, 1, 2), dropped(1, 7)).do(tickOp(20), dropped(1, 7)).do(reportOp(1, 2, 4), goodIs(8, 7), phaseIs(0, 8))
	events := checkPlay(t, g, 2, 1)
	good := firstBy(t, events, goodIs(8, 7))
	checkVerdicts(t, []verdict{
		{"no PhaseRolls", "g", slices.Delete(slices.Clone(events), 1, 2)},
		{"no PhaseIdle", "g", events[:good+1]},
		{"good ahead of the last command", "g", slices.Insert(slices.Clone(events), good-1, goodIs(8, 7))},
		{"a pod created between", "g", slices.Insert(slices.Clone(events), good+1, made(3, 8))},
		{"another is good", "g", slices.Replace(slices.Clone(events), good, good+1, goodIs(7, 8))},
		{"pod 1 twice", "c", append(slices.Clone(events), made(1, 8))},
		{"pod 1 never", "c", events[1:]},
	})
}

func TestTheTrailOfARolloutThatGoesBack(t *testing.T) {
	g := newTape(t, spec1(), 7).do(tickOp(1), made(1, 7)).ready(1).do(editOp(8, 0), phaseIs(1, 8), made(2, 8))
	g.do(reportOp(2, 1, 3), dropped(2, 8), failed(8, 1), phaseIs(2, 7)).do(reportOp(2, 2, 4), phaseIs(3, 7)).settled(true)
	g.do(tickOp(30)).do(reportOp(1, 2, 3))
	events := checkPlay(t, g, 2, 1)
	back := firstBy(t, events, phaseIs(2, 7))
	checkVerdicts(t, []verdict{
		{"back once more", "b", slices.Insert(slices.Clone(events), back+1, phaseIs(2, 7))},
		{"back ahead of it, too", "b", slices.Insert(slices.Clone(events), back, phaseIs(2, 8), phaseIs(0, 8))},
		{"back behind another edit", "", slices.Insert(slices.Clone(events), back+1, phaseIs(1, 8), phaseIs(2, 7))},
		{"what was gone back to is good", "g", slices.Insert(slices.Clone(events), back+1, goodIs(7, 8), phaseIs(0, 7))},
		{"a pod behind PhaseDegraded", "q", append(slices.Clone(events), made(3, 7))},
		{"pod 2 told once more behind it", "q", append(slices.Clone(events), dropped(2, 8))},
		{"pod 2 ahead of its time", "c", slices.Insert(slices.Clone(events), 0, dropped(2, 8))},
	})
}

func TestTheTrailOfARolloutThatIsEditedAmid(t *testing.T) {
	g := newTape(t, spec1(), 7).do(tickOp(1), made(1, 7)).ready(1).do(editOp(8, 0), phaseIs(1, 8), made(2, 8))
	g.do(reportOp(2, 1, 3), dropped(2, 8), failed(8, 1), phaseIs(2, 7)).do(editOp(9, 0), phaseIs(1, 9)).do(reportOp(2, 2, 4), made(3, 9))
	g.do(reportOp(3, 1, 3), dropped(3, 9), failed(9, 1), phaseIs(2, 7)).do(editOp(8, 0), phaseIs(1, 8)).do(reportOp(3, 2, 4), made(4, 8))
	g.do(reportOp(4, 1, 2), dropped(1, 7)).do(reportOp(1, 2, 4), goodIs(8, 7), phaseIs(0, 8))
	events := checkPlay(t, g, 2, 3)
	if impl.BacksBetween(events, 0, len(events)) != 2 || impl.BacksBetween(events, 0, firstBy(t, events, phaseIs(1, 9))) != 1 {
		t.Errorf("%v", events)
	}
	edit, last := firstBy(t, events, phaseIs(1, 9)), len(events)-5
	checkVerdicts(t, []verdict{
		{"without the edit between", "b", slices.Delete(slices.Clone(events), edit, edit+1)},
		{"the edit is to another", "g", slices.Replace(slices.Clone(events), last, last+1, phaseIs(1, 9))},
		{"without the last edit", "g", slices.Delete(slices.Clone(events), last, last+1)},
		{"pods that fall", "c", slices.Replace(slices.Clone(events), last+1, last+2, made(2, 8))},
	})
}

func TestTheTrailOutOfPhaseDegradedByAnEdit(t *testing.T) {
	g := degradedTape(t).do(tickOp(20)).do(reportOp(2, 2, impl.PodBroken))
	g.do(editOp(3, 0), phaseIs(1, 3), dropped(2, 1), dropped(5, 2), dropped(6, 1)).do(reportOp(5, 1, 4), made(7, 3)).do(reportOp(6, 2, 4), made(8, 3))
	events := checkPlay(t, g, 4, 5)
	degraded := firstBy(t, events, phaseIs(3, 1))
	for _, e := range told(made(7, 1), dropped(5, 2), failed(1, 1), phaseIs(0, 1), phaseIs(3, 1), impl.Event{Kind: 7}) {
		broken := "q"
		if e == made(7, 1) {
			// The pod is created behind the edit once more.
			broken = "cq"
		}
		checkVerdicts(t, []verdict{{"ahead of the edit", broken, slices.Insert(slices.Clone(events), degraded+1, e)}})
	}
	checkVerdicts(t, []verdict{
		{"without the edit", "q", slices.Delete(slices.Clone(events), degraded+1, degraded+2)},
		{"the edit behind the first command", "q", slices.Concat(events[:degraded+1], told(dropped(2, 1), phaseIs(1, 3)), events[degraded+3:])},
		{"the edit twice", "", slices.Insert(slices.Clone(events), degraded+1, phaseIs(1, 3))},
	})
}

// roomy has room behind its end, where nothing may be written either.
func roomy[T any](list []T, room T) []T {
	wide := append(slices.Clone(list), slices.Repeat([]T{room}, 5)...)
	return wide[:len(list)]
}

func TestTrailsAreNotWrittenIntoNorShared(t *testing.T) {
	g := degradedTape(t)
	_, list, _ := g.play()
	ops, events := roomy(g.ops, impl.Op{Kind: -7}), roomy(list, impl.Event{Kind: -7})
	a, _ := impl.TrailOf(g.spec, g.rev, ops)
	marks := roomy(a, impl.Mark{Now: -7})
	keptOps, keptEvents, keptMarks := slices.Clone(ops[:cap(ops)]), slices.Clone(events[:cap(events)]), slices.Clone(marks[:cap(marks)])
	commands := impl.CommandsOf(events)
	wantMarks, wantCommands, want := slices.Clone(a), slices.Clone(commands), impl.RetriesOf(events)
	for i := range a[:cap(a)] {
		a[:cap(a)][i] = impl.Mark{Pods: -1}
	}
	for i := range commands[:cap(commands)] {
		commands[:cap(commands)][i] = impl.Event{Kind: -1}
	}
	for range 3 {
		again, _ := impl.TrailOf(g.spec, g.rev, ops)
		if !slices.Equal(again, wantMarks) || !slices.Equal(impl.CommandsOf(events), wantCommands) || impl.RetriesOf(events) != want || verdictOf(events) != "" || impl.MostPods(marks) != 4 || !impl.CeilingKept(g.spec, marks) {
			t.Errorf("%v, %v", again, impl.CommandsOf(events))
		}
	}
	impl.BacksBetween(events, 0, 99)
	if !slices.Equal(ops[:cap(ops)], keptOps) || !slices.Equal(events[:cap(events)], keptEvents) || !slices.Equal(marks[:cap(marks)], keptMarks) {
		t.Errorf("%v, %v, %v", ops, events, marks)
	}
	only := told(made(1, 1), dropped(1, 1))
	copied := impl.CommandsOf(only)
	copied[0].A = 5
	if only[0].A != 1 || strings.Contains(verdictOf(only), "c") {
		t.Errorf("%v", only)
	}
}
