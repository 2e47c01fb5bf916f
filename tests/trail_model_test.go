package tests

import (
	"math/rand"
	"runtime"
	"slices"
	"sync"
	"testing"
	"time"

	"loop.example/g00734/impl"
)

// The checks by the document's words, each pair of events for itself; they are held against the real ones.

func phaseBy(e impl.Event, phase int) bool { return e.Kind == 2 && e.A == phase }

// someBetween looks at the places from .. to - 1.
func someBetween(events []impl.Event, from, to int, wanted func(e impl.Event) bool) bool {
	return from < to && slices.ContainsFunc(events[from:to], wanted)
}

func editBy(e impl.Event) bool { return phaseBy(e, 1) }

func oneBackBy(events []impl.Event) bool {
	for i, a := range events {
		for j, b := range events {
			if i < j && phaseBy(a, 2) && phaseBy(b, 2) && !someBetween(events, i+1, j, editBy) {
				return false
			}
		}
	}
	return true
}

func goodOnlyBy(events []impl.Event) bool {
	for i, e := range events {
		if e.Kind != 3 {
			continue
		}
		rolled := false
		for j, b := range events[:i] {
			rolled = rolled || b == phaseIs(1, e.A) && !someBetween(events, j+1, i, func(e impl.Event) bool { return e.Kind == 2 })
		}
		if !rolled || len(events) == i+1 || events[i+1] != phaseIs(0, e.A) {
			return false
		}
	}
	return true
}

func createdOnceBy(events []impl.Event) bool {
	for i, e := range events {
		madeBy := func(x impl.Event) bool { return x.Kind == 0 && x.A == e.A }
		notBelow := func(x impl.Event) bool { return x.Kind == 0 && x.A >= e.A }
		if e.Kind == 0 && someBetween(events, 0, i, notBelow) || e.Kind == 1 && !someBetween(events, 0, i, madeBy) {
			return false
		}
	}
	return true
}

func quietBy(events []impl.Event) bool {
	for i, e := range events {
		for j := i + 1; j < len(events) && phaseBy(e, 3); j++ {
			if !someBetween(events, i+1, j+1, editBy) {
				return false
			}
		}
	}
	return true
}

func verdictBy(events []impl.Event) string {
	broken := ""
	for i, kept := range []bool{oneBackBy(events), goodOnlyBy(events), createdOnceBy(events), quietBy(events)} {
		if !kept {
			broken += "bgcq"[i : i+1]
		}
	}
	return broken
}

func retriesBy(events []impl.Event) int {
	if !createdOnceBy(events) {
		return -1
	}
	n := 0
	for i, e := range events {
		if e.Kind == 1 && !someBetween(events, 0, i, func(x impl.Event) bool { return x.Kind == 1 && x.A == e.A }) {
			n++
		}
	}
	return n
}

func backsBy(events []impl.Event, from, to int) int {
	n := 0
	for place := from; place <= to-1; place++ {
		if place >= 0 && place < len(events) && phaseBy(events[place], 2) {
			n++
		}
	}
	return n
}

func commandsBy(events []impl.Event) []impl.Event {
	return slices.DeleteFunc(slices.Clone(events), func(e impl.Event) bool { return e.Kind != 0 && e.Kind != 1 })
}

func markBy(e impl.Engine) impl.Mark {
	m := impl.Mark{Now: e.Now, Phase: e.Phase, Target: e.Target, Good: e.Good, Pods: len(e.Fleet.Pods), Top: e.Spec.Replicas + e.Spec.Surge}
	for _, p := range e.Fleet.Pods {
		if p.State == 4 {
			m.Going++
		}
		if availableBy(e.Spec, p, e.Now) {
			m.Avail++
		}
	}
	return m
}

func marksBy(s impl.Spec, rev int, ops []impl.Op) []impl.Mark {
	m, marks := shadowOf(s, rev), []impl.Mark{}
	for _, o := range ops {
		m.do(o)
		marks = append(marks, markBy(m.Engine))
	}
	return marks
}

func ceilingBy(s impl.Spec, marks []impl.Mark) bool {
	for i, m := range marks {
		if m.Pods > s.Replicas+s.Surge && !slices.ContainsFunc(marks[:i+1], func(x impl.Mark) bool { return x.Top >= m.Pods }) {
			return false
		}
	}
	return true
}

func checkEvents(t *testing.T, events []impl.Event) string {
	t.Helper()
	got := verdictOf(events)
	if want := verdictBy(events); got != want {
		t.Fatalf("%v breaks %q, should %q", events, got, want)
	}
	if got, want := impl.RetriesOf(events), retriesBy(events); got != want {
		t.Fatalf("%v: RetriesOf %d, want %d", events, got, want)
	}
	if got, want := impl.CommandsOf(events), commandsBy(events); !slices.Equal(got, want) {
		t.Fatalf("%v: CommandsOf %v, want %v", events, got, want)
	}
	return got
}

// alphabet has for each rule what keeps to it and what breaks it.
func alphabet() []impl.Event {
	return told(made(1, 1), made(2, 1), dropped(1, 1), dropped(2, 1), phaseIs(1, 2), phaseIs(1, 1), phaseIs(2, 1), phaseIs(3, 1), phaseIs(0, 2), phaseIs(0, 1), goodIs(2, 1), goodIs(1, 2), failed(2, 1))
}

func TestAllShortTrails(t *testing.T) {
	verdicts := map[string]int{}
	lists := [][]impl.Event{{}}
	for len(lists[0]) <= 4 {
		longer := [][]impl.Event{}
		for _, events := range lists {
			verdicts[checkEvents(t, events)]++
			for _, e := range alphabet() {
				if len(events) < 4 {
					longer = append(longer, append(slices.Clone(events), e))
				}
			}
		}
		if len(longer) == 0 {
			break
		}
		lists = longer
	}
	for _, broken := range []string{"", "b", "g", "c", "q", "bg", "bc", "bq", "gc", "gq", "cq", "bgc", "gcq"} {
		if verdicts[broken] == 0 {
			t.Errorf("none breaks %q: %v", broken, verdicts)
		}
	}
}

func chanceEvents(chance *rand.Rand, n int) []impl.Event {
	events, letters := []impl.Event{}, alphabet()
	for range n {
		e := letters[chance.Intn(len(letters))]
		if chance.Intn(15) == 0 {
			e = impl.Event{Kind: chance.Intn(8) - 1, A: chance.Intn(7) - 1, B: chance.Intn(4) - 1}
		}
		if e.Kind == 0 && chance.Intn(4) > 0 {
			e.A = len(events)
		}
		events = append(events, e)
	}
	return events
}

func TestTrailsByChance(t *testing.T) {
	chance, verdicts := rand.New(rand.NewSource(9)), map[string]int{}
	for range 20000 {
		events := chanceEvents(chance, chance.Intn(14))
		verdicts[checkEvents(t, events)]++
		from, to := chance.Intn(20)-3, chance.Intn(20)-3
		if got, want := impl.BacksBetween(events, from, to), backsBy(events, from, to); got != want {
			t.Fatalf("%v, from %d to %d: %d, want %d", events, from, to, got, want)
		}
	}
	for _, broken := range []string{"", "b", "g", "c", "q", "bg", "bc", "bq", "gc", "gq", "cq", "bgc", "bgq", "bcq", "gcq", "bgcq"} {
		if verdicts[broken] < 20 {
			t.Errorf("only %d break %q", verdicts[broken], broken)
		}
	}
}

// seenIn counts which of all that a trail may have is in it.
func seenIn(seen map[string]int, s impl.Spec, events []impl.Event, marks []impl.Mark) {
	edits, degraded := 0, false
	for i, e := range events {
		switch {
		case phaseBy(e, 1):
			edits++
			if degraded {
				seen["an edit out of PhaseDegraded"]++
			}
			degraded = false
		case phaseBy(e, 2) && edits > 1:
			seen["a way back behind a later edit"]++
		case phaseBy(e, 3):
			degraded = true
			seen["PhaseDegraded"]++
		case e.Kind == 3:
			seen["a good one"]++
		case e.Kind == 1 && slices.Contains(events[:i], e):
			seen["a pod told once more"]++
		}
	}
	for i, m := range marks {
		if m.Pods > m.Top {
			seen["more than the Ceiling that stands"]++
		}
		if m.Phase == 3 && i > 0 && marks[i-1].Phase == 3 {
			seen["an op in PhaseDegraded"]++
		}
		if m.Pods > s.Replicas+s.Surge {
			seen["more than the first Ceiling"]++
		}
	}
}

// What follows: the events of every engine keep to all of it.
func TestTheTrailsOfAllPlays(t *testing.T) {
	chance, seen := rand.New(rand.NewSource(99)), map[string]int{}
	for range 300 {
		s, rev, ops, _ := chancePlay(chance, 20+chance.Intn(181))
		_, events, _, _ := impl.PlayEngine(s, rev, ops)
		marks, ok := impl.TrailOf(s, rev, ops)
		if want := marksBy(s, rev, ops); !ok || !slices.Equal(marks, want) {
			t.Fatalf("%v, rev %d, %v:\n%v, want\n%v", s, rev, ops, marks, want)
		}
		if broken := checkEvents(t, events); broken != "" || !impl.CeilingKept(s, marks) || !ceilingBy(s, marks) {
			t.Fatalf("%v, rev %d, %v: %v breaks %q", s, rev, ops, events, broken)
		}
		if got := impl.MostPods(marks); got < marks[0].Pods || slices.ContainsFunc(marks, func(m impl.Mark) bool { return m.Pods > got }) {
			t.Fatalf("%v: MostPods %d", marks, got)
		}
		seenIn(seen, s, events, marks)
	}
	for _, what := range []string{"an edit out of PhaseDegraded", "a way back behind a later edit", "PhaseDegraded", "a good one", "a pod told once more", "more than the Ceiling that stands", "an op in PhaseDegraded", "more than the first Ceiling"} {
		if seen[what] < 25 {
			t.Errorf("only %d times %s", seen[what], what)
		}
	}
}

// A trail with one event changed, moved or taken out is judged as the document says.
func TestTrailsOfPlaysWithAChange(t *testing.T) {
	chance, verdicts := rand.New(rand.NewSource(999)), map[string]int{}
	for range 1500 {
		s, rev, ops, _ := chancePlay(chance, 20+chance.Intn(60))
		_, events, _, _ := impl.PlayEngine(s, rev, ops)
		from, to := chance.Intn(len(events)), chance.Intn(len(events))
		switch e := events[from]; chance.Intn(4) {
		case 0:
			events = slices.Delete(events, from, from+1)
		case 1:
			events = slices.Insert(events, to, e)
		case 2:
			events[from], events[to] = events[to], e
		case 3:
			events = slices.Insert(events, to, phaseIs(chance.Intn(4), 1+chance.Intn(3)))
		}
		verdicts[checkEvents(t, events)]++
	}
	for _, broken := range []string{"", "b", "g", "c", "q"} {
		if verdicts[broken] < 5 {
			t.Errorf("only %d break %q", verdicts[broken], broken)
		}
	}
}

func TestCeilingKeptByChance(t *testing.T) {
	chance, kept := rand.New(rand.NewSource(9999)), 0
	for range 20000 {
		s, marks := rolling(4, 1, 1), []impl.Mark{}
		for range chance.Intn(6) {
			marks = append(marks, impl.Mark{Pods: chance.Intn(9), Top: chance.Intn(9)})
		}
		if got := impl.CeilingKept(s, marks); got != ceilingBy(s, marks) {
			t.Fatalf("%v: %v", marks, got)
		} else if got {
			kept++
		}
	}
	if kept < 5000 || kept > 15000 {
		t.Errorf("%d of 20000 are kept", kept)
	}
}

// wantGoroutines waits a while, as one that ends may still be counted.
func wantGoroutines(t *testing.T, most int) {
	t.Helper()
	for wait := 0; runtime.NumGoroutine() > most; wait++ {
		if wait == 1000 {
			t.Fatalf("%d goroutines, %d ahead", runtime.NumGoroutine(), most)
		}
		time.Sleep(time.Millisecond)
	}
}

// Many may ask at once of one and the same list, and no goroutine of a check is left behind.
func TestChecksSideBySide(t *testing.T) {
	g := degradedTape(t)
	_, events, _ := g.play()
	marks, _ := impl.TrailOf(g.spec, g.rev, g.ops)
	broken := append(slices.Clone(events), made(1, 1), phaseIs(2, 1), phaseIs(2, 1), goodIs(1, 1))
	ahead := runtime.NumGoroutine()
	var running sync.WaitGroup
	for range 50 {
		running.Go(func() {
			for range 50 {
				if verdictOf(events) != "" || verdictOf(broken) != "bgcq" || !impl.CeilingKept(g.spec, marks) || impl.RetriesOf(events) != 4 {
					t.Error("another verdict")
					return
				}
			}
		})
	}
	running.Wait()
	wantGoroutines(t, ahead)
}

// No limit is named for events, and a long list is judged as a short one.
func TestLongTrails(t *testing.T) {
	events := []impl.Event{}
	for id := 1; id <= 20000; id++ {
		events = append(events, made(id, 2), phaseIs(1, 2), phaseIs(2, 1), phaseIs(3, 1), phaseIs(1, 2), dropped(id, 2), dropped(id, 2), goodIs(2, 1), phaseIs(0, 2))
	}
	if got := verdictOf(events); got != "" || impl.RetriesOf(events) != 20000 || len(impl.CommandsOf(events)) != 60000 || impl.BacksBetween(events, 9, 27) != 2 {
		t.Errorf("breaks %q, %d retries", got, impl.RetriesOf(events))
	}
	events = append(events, phaseIs(2, 1), phaseIs(3, 1), goodIs(2, 1), made(20000, 2), phaseIs(2, 1))
	if got := verdictOf(events); got != "bgcq" || impl.RetriesOf(events) != -1 {
		t.Errorf("breaks %q", got)
	}
}
