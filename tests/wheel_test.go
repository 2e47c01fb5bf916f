package tests

import (
	"math"
	"math/rand"
	"slices"
	"testing"

	"loop.example/g00734/impl"
)

// wheelOf hangs the timers into their lists by the document's words, without arming them.
func wheelOf(now int, timers ...impl.Timer) impl.Wheel {
	w := impl.Wheel{Now: now, Slots: make([][]impl.Timer, impl.Spokes)}
	for _, x := range timers {
		w.Slots[x.At%impl.Spokes] = append(w.Slots[x.At%impl.Spokes], x)
	}
	return w
}

// manyTimers have the Ids from 1 on, at the ticks from first on.
func manyTimers(n int, first int) []impl.Timer {
	timers := []impl.Timer{}
	for i := range n {
		timers = append(timers, impl.Timer{Id: i + 1, At: first + i})
	}
	return timers
}

func sameWheels(a, b impl.Wheel) bool {
	return a.Now == b.Now && slices.EqualFunc(a.Slots, b.Slots, slices.Equal)
}

func copyOf(w impl.Wheel) impl.Wheel {
	c := impl.Wheel{Now: w.Now}
	for _, list := range w.Slots {
		c.Slots = append(c.Slots, slices.Clone(list))
	}
	return c
}

// badWheels break one by one what the document says of a wheel.
func badWheels() map[string]impl.Wheel {
	long := wheelOf(5, impl.Timer{Id: 1, At: 9})
	long.Slots = append(long.Slots, nil)
	short := wheelOf(5, impl.Timer{Id: 1, At: 9})
	short.Slots = short.Slots[:impl.Spokes-1]
	wrong := wheelOf(5)
	wrong.Slots[2] = []impl.Timer{{Id: 1, At: 9}}
	lastWrong := wheelOf(5, impl.Timer{Id: 1, At: 9})
	lastWrong.Slots[7] = []impl.Timer{{Id: 2, At: 8}}
	below := wheelOf(5)
	below.Slots[0] = []impl.Timer{{Id: 1, At: -8}}
	belowRest := wheelOf(5)
	belowRest.Slots[7] = []impl.Timer{{Id: 1, At: -1}}
	oneList := wheelOf(0)
	for i := range impl.MaxTimers + 1 {
		oneList.Slots[3] = append(oneList.Slots[3], impl.Timer{Id: i + 1, At: 3})
	}
	return map[string]impl.Wheel{
		"zero value":            {},
		"no lists":              {Now: 5},
		"a list too few":        short,
		"a list too many":       long,
		"Now below 0":           wheelOf(-1),
		"Now below 0, timers":   wheelOf(-1, impl.Timer{Id: 1, At: 9}),
		"Now above MaxTick":     wheelOf(top + 1),
		"Now far off":           wheelOf(math.MinInt),
		"Id 0":                  wheelOf(5, impl.Timer{Id: 0, At: 9}),
		"Id below 0":            wheelOf(5, impl.Timer{Id: 1, At: 9}, impl.Timer{Id: -1, At: 10}),
		"Id above MaxTick":      wheelOf(5, impl.Timer{Id: top + 1, At: 9}),
		"Id twice at one At":    wheelOf(5, impl.Timer{Id: 1, At: 9}, impl.Timer{Id: 1, At: 9}),
		"Id twice in one list":  wheelOf(5, impl.Timer{Id: 1, At: 9}, impl.Timer{Id: 2, At: 9}, impl.Timer{Id: 1, At: 17}),
		"Id twice in two lists": wheelOf(5, impl.Timer{Id: 1, At: 9}, impl.Timer{Id: 2, At: 10}, impl.Timer{Id: 1, At: 15}),
		"wrong list":            wrong,
		"wrong list, last":      lastWrong,
		"At is Now":             wheelOf(5, impl.Timer{Id: 1, At: 5}),
		"At below Now":          wheelOf(5, impl.Timer{Id: 2, At: 9}, impl.Timer{Id: 1, At: 4}),
		"At below 0":            below,
		"At below 0, odd":       belowRest,
		"At above MaxTick":      wheelOf(5, impl.Timer{Id: 1, At: top + 1}),
		"At a turn too far":     wheelOf(5, impl.Timer{Id: 1, At: top + impl.Spokes}),
		"one timer too many":    wheelOf(5, manyTimers(impl.MaxTimers+1, 6)...),
		"too many in one list":  oneList,
	}
}

// goodWheels are at the edges of what a wheel may be.
func goodWheels() map[string]impl.Wheel {
	oneList := wheelOf(0)
	for i := range impl.MaxTimers {
		oneList.Slots[3] = append(oneList.Slots[3], impl.Timer{Id: impl.MaxTimers - i, At: 3 + i%5*impl.Spokes})
	}
	emptied := wheelOf(5)
	for i := range emptied.Slots {
		emptied.Slots[i] = []impl.Timer{}
	}
	return map[string]impl.Wheel{
		"without timers":      wheelOf(5),
		"empty lists":         emptied,
		"at the first tick":   wheelOf(0, impl.Timer{Id: 1, At: 1}),
		"at the last tick":    wheelOf(top),
		"ahead of the last":   wheelOf(top-1, impl.Timer{Id: top, At: top}),
		"from end to end":     wheelOf(0, impl.Timer{Id: 1, At: top}, impl.Timer{Id: top, At: 1}),
		"later one ahead":     wheelOf(5, impl.Timer{Id: 1, At: 17}, impl.Timer{Id: 2, At: 9}, impl.Timer{Id: 3, At: 17}),
		"MaxTimers":           wheelOf(5, manyTimers(impl.MaxTimers, 6)...),
		"MaxTimers in a list": oneList,
	}
}

func TestWheelLimits(t *testing.T) {
	if impl.Spokes != 8 || impl.MaxTimers != 80 || impl.MaxStep != 2000 {
		t.Errorf("Spokes %d, MaxTimers %d, MaxStep %d", impl.Spokes, impl.MaxTimers, impl.MaxStep)
	}
}

func TestSpokeOf(t *testing.T) {
	for _, at := range edgeTicks() {
		if got := impl.SpokeOf(at); got != at%8 {
			t.Errorf("SpokeOf(%d) = %d", at, got)
		}
	}
	for _, at := range noTicks() {
		if got := impl.SpokeOf(at); got != -1 {
			t.Errorf("SpokeOf(%d) = %d", at, got)
		}
	}
	if a, b, c := impl.SpokeOf(7), impl.SpokeOf(8), impl.SpokeOf(17); a != 7 || b != 0 || c != 1 {
		t.Errorf("of 7, 8, 17: %d, %d, %d", a, b, c)
	}
}

func TestNewWheel(t *testing.T) {
	for _, now := range edgeTicks() {
		w, ok := impl.NewWheel(now)
		if !ok || !sameWheels(w, wheelOf(now)) || !impl.WheelOk(w) || impl.CountTimers(w) != 0 {
			t.Errorf("NewWheel(%d) = %v, %v", now, w, ok)
		}
	}
	for _, now := range noTicks() {
		if w, ok := impl.NewWheel(now); ok || w.Now != 0 || len(w.Slots) != 0 {
			t.Errorf("NewWheel(%d) = %v, %v", now, w, ok)
		}
	}
}

func TestWheelOk(t *testing.T) {
	for name, w := range goodWheels() {
		if !impl.WheelOk(w) {
			t.Errorf("%s: not WheelOk", name)
		}
	}
	for name, w := range badWheels() {
		if impl.WheelOk(w) {
			t.Errorf("%s: WheelOk", name)
		}
	}
}

func TestWheelsThatAreNotOkAreRefused(t *testing.T) {
	for name, w := range badWheels() {
		was := copyOf(w)
		if got, ok := impl.ArmTimer(w, 7, max(w.Now, 0)+50); ok || !sameWheels(got, was) {
			t.Errorf("%s: ArmTimer = %v, %v", name, got, ok)
		}
		if got, ok := impl.StopTimer(w, 1); ok || !sameWheels(got, was) {
			t.Errorf("%s: StopTimer = %v, %v", name, got, ok)
		}
		for _, by := range []int{0, 1, 9, impl.MaxStep} {
			if got, told := impl.TurnWheel(w, by); len(told) != 0 || !sameWheels(got, was) {
				t.Errorf("%s: TurnWheel by %d = %v, %v", name, by, got, told)
			}
		}
		if at, n, soonest := impl.TimerOf(w, 1), impl.CountTimers(w), impl.SoonestTimer(w); at != -1 || n != -1 || soonest != -1 {
			t.Errorf("%s: TimerOf %d, CountTimers %d, SoonestTimer %d", name, at, n, soonest)
		}
	}
}

func TestLookingAtAWheel(t *testing.T) {
	for name, w := range goodWheels() {
		n, soonest := 0, -1
		for _, list := range w.Slots {
			for _, x := range list {
				n++
				if soonest == -1 || x.At < soonest {
					soonest = x.At
				}
				if got := impl.TimerOf(w, x.Id); got != x.At {
					t.Errorf("%s: TimerOf %d = %d, want %d", name, x.Id, got, x.At)
				}
			}
		}
		if a, b := impl.CountTimers(w), impl.SoonestTimer(w); a != n || b != soonest {
			t.Errorf("%s: CountTimers %d, SoonestTimer %d, want %d, %d", name, a, b, n, soonest)
		}
		for _, id := range []int{0, -1, 500, top + 1, math.MinInt, math.MaxInt} {
			if got := impl.TimerOf(w, id); got != -1 {
				t.Errorf("%s: TimerOf %d = %d", name, id, got)
			}
		}
	}
}

func TestArmTimerHangsBehindTheOthers(t *testing.T) {
	w := wheelOf(5, impl.Timer{Id: 4, At: 17}, impl.Timer{Id: 2, At: 10})
	got, ok := impl.ArmTimer(w, 1, 9)
	want := wheelOf(5, impl.Timer{Id: 4, At: 17}, impl.Timer{Id: 2, At: 10}, impl.Timer{Id: 1, At: 9})
	if !ok || !sameWheels(got, want) {
		t.Errorf("%v, %v", got, ok)
	}
}

func TestATimerThatIsArmedAnew(t *testing.T) {
	a, b, c := impl.Timer{Id: 1, At: 9}, impl.Timer{Id: 2, At: 9}, impl.Timer{Id: 3, At: 12}
	w := wheelOf(5, a, b, c)
	for _, x := range []struct {
		id, at int
		want   impl.Wheel
	}{
		// Even at the same tick it comes to stand behind the others.
		{1, 9, wheelOf(5, b, c, a)},
		{2, 9, wheelOf(5, a, c, b)},
		{1, 17, wheelOf(5, b, c, impl.Timer{Id: 1, At: 17})},
		{1, 6, wheelOf(5, b, c, impl.Timer{Id: 1, At: 6})},
		{3, 9, wheelOf(5, a, b, impl.Timer{Id: 3, At: 9})},
		{3, 12, wheelOf(5, a, b, c)},
	} {
		got, ok := impl.ArmTimer(w, x.id, x.at)
		if !ok || !sameWheels(got, x.want) || impl.CountTimers(got) != 3 || impl.TimerOf(got, x.id) != x.at {
			t.Errorf("%d at %d: %v, %v", x.id, x.at, got, ok)
		}
		if _, told := impl.TurnWheel(got, 20); len(told) != 3 {
			t.Errorf("%d at %d: told %v", x.id, x.at, told)
		}
	}
}

func TestArmTimerAtItsEdges(t *testing.T) {
	for _, x := range []struct {
		now, id, at int
		want        bool
	}{
		{5, 1, 6, true},
		{5, 1, 5, false},
		{5, 1, 4, false},
		{5, 1, 0, false},
		{5, 1, top, true},
		{5, 1, top + 1, false},
		{5, 1, top + impl.Spokes, false},
		{5, 1, -1, false},
		{5, 1, math.MinInt, false},
		{5, 1, math.MaxInt, false},
		{0, 1, 0, false},
		{0, 1, 1, true},
		{top - 1, 1, top, true},
		{top, 1, top, false},
		{top, 1, top + 1, false},
		{5, top, 9, true},
		{5, top + 1, 9, false},
		{5, 0, 9, false},
		{5, -1, 9, false},
		{5, math.MinInt, 9, false},
		{5, math.MaxInt, 9, false},
	} {
		w := wheelOf(x.now)
		want := w
		if x.want {
			want = wheelOf(x.now, impl.Timer{Id: x.id, At: x.at})
		}
		if got, ok := impl.ArmTimer(w, x.id, x.at); ok != x.want || !sameWheels(got, want) {
			t.Errorf("at %d, timer %d at %d: %v, %v", x.now, x.id, x.at, got, ok)
		}
	}
}

func TestMaxTimersAndOneMore(t *testing.T) {
	timers := manyTimers(impl.MaxTimers, 6)
	w, ok := wheelOf(5, timers[:impl.MaxTimers-1]...), false
	if w, ok = impl.ArmTimer(w, impl.MaxTimers, 5+impl.MaxTimers); !ok || !sameWheels(w, wheelOf(5, timers...)) {
		t.Fatalf("the last of MaxTimers: %v, %v", w, ok)
	}
	if got, ok := impl.ArmTimer(w, impl.MaxTimers+1, 9); ok || !sameWheels(got, w) {
		t.Errorf("one more: %v, %v", got, ok)
	}
	// One of the full wheel is taken off first, so that there is room for it.
	got, ok := impl.ArmTimer(w, 1, 900)
	if !ok || !sameWheels(got, wheelOf(5, append(timers[1:], impl.Timer{Id: 1, At: 900})...)) {
		t.Errorf("armed anew: %v, %v", got, ok)
	}
	// What is refused takes none off.
	if got, ok := impl.ArmTimer(w, 1, 5); ok || !sameWheels(got, w) {
		t.Errorf("armed anew at Now: %v, %v", got, ok)
	}
	less, _ := impl.StopTimer(w, 2)
	if got, ok := impl.ArmTimer(less, impl.MaxTimers+1, 9); !ok || impl.CountTimers(got) != impl.MaxTimers {
		t.Errorf("where one was stopped: %v, %v", got, ok)
	}
}

func TestStopTimer(t *testing.T) {
	a, b, c, d := impl.Timer{Id: 1, At: 9}, impl.Timer{Id: 2, At: 17}, impl.Timer{Id: 3, At: 9}, impl.Timer{Id: 4, At: 16}
	w := wheelOf(5, a, b, c, d)
	for id, want := range map[int]impl.Wheel{
		1: wheelOf(5, b, c, d),
		2: wheelOf(5, a, c, d),
		3: wheelOf(5, a, b, d),
		4: wheelOf(5, a, b, c),
	} {
		got, ok := impl.StopTimer(w, id)
		if !ok || !sameWheels(got, want) || impl.TimerOf(got, id) != -1 {
			t.Errorf("%d: %v, %v", id, got, ok)
		}
		if again, ok := impl.StopTimer(got, id); ok || !sameWheels(again, want) {
			t.Errorf("%d once more: %v, %v", id, again, ok)
		}
		if _, told := impl.TurnWheel(got, 100); len(told) != 3 || slices.Contains(told, id) {
			t.Errorf("%d was stopped, told %v", id, told)
		}
	}
	for _, id := range []int{0, -1, 5, 9, top, top + 1, math.MinInt, math.MaxInt} {
		if got, ok := impl.StopTimer(w, id); ok || !sameWheels(got, w) {
			t.Errorf("%d: %v, %v", id, got, ok)
		}
	}
}

func TestTurnWheelAtItsEdges(t *testing.T) {
	soon, exact, late := impl.Timer{Id: 1, At: 6}, impl.Timer{Id: 2, At: 2005}, impl.Timer{Id: 3, At: 2006}
	w := wheelOf(5, soon, exact, late)
	for _, x := range []struct {
		by   int
		want impl.Wheel
		told []int
	}{
		{0, w, nil},
		{1, wheelOf(6, exact, late), []int{1}},
		{impl.MaxStep - 1, wheelOf(2004, exact, late), []int{1}},
		{impl.MaxStep, wheelOf(2005, late), []int{1, 2}},
		{impl.MaxStep + 1, w, nil},
		{-1, w, nil},
		{math.MinInt, w, nil},
		{math.MaxInt, w, nil},
	} {
		got, told := impl.TurnWheel(w, x.by)
		if !sameWheels(got, x.want) || !slices.Equal(told, x.told) {
			t.Errorf("by %d: %v, %v", x.by, got, told)
		}
	}
}

func TestATurnEndsAtMaxTick(t *testing.T) {
	w := wheelOf(top-3, impl.Timer{Id: 1, At: top}, impl.Timer{Id: 2, At: top - 1}, impl.Timer{Id: 3, At: top})
	for _, by := range []int{3, 4, 11, impl.MaxStep} {
		got, told := impl.TurnWheel(w, by)
		if !sameWheels(got, wheelOf(top)) || !impl.WheelOk(got) || !slices.Equal(told, []int{2, 1, 3}) {
			t.Errorf("by %d: %v, %v", by, got, told)
		}
	}
	for _, by := range []int{0, 1, impl.MaxStep} {
		if got, told := impl.TurnWheel(wheelOf(top), by); !sameWheels(got, wheelOf(top)) || len(told) != 0 {
			t.Errorf("at MaxTick by %d: %v, %v", by, got, told)
		}
	}
	// Too far is refused there as well.
	if got, told := impl.TurnWheel(w, impl.MaxStep+1); !sameWheels(got, w) || len(told) != 0 {
		t.Errorf("by one more than MaxStep: %v, %v", got, told)
	}
}

func TestTimersOfALaterTurnStay(t *testing.T) {
	a, b, c, d := impl.Timer{Id: 1, At: 25}, impl.Timer{Id: 2, At: 9}, impl.Timer{Id: 3, At: 17}, impl.Timer{Id: 4, At: 9}
	w := wheelOf(6, a, b, c, d)
	for _, x := range []struct {
		by   int
		want impl.Wheel
		told []int
	}{
		{2, wheelOf(8, a, b, c, d), nil},
		{3, wheelOf(9, a, c), []int{2, 4}},
		{8, wheelOf(14, a, c), []int{2, 4}},
		{11, wheelOf(17, a), []int{2, 4, 3}},
		{19, wheelOf(25), []int{2, 4, 3, 1}},
		{500, wheelOf(506), []int{2, 4, 3, 1}},
	} {
		got, told := impl.TurnWheel(w, x.by)
		if !sameWheels(got, x.want) || !slices.Equal(told, x.told) {
			t.Errorf("by %d: %v, %v", x.by, got, told)
		}
	}
}

func TestATurnOverManyTicksTellsByAtAndThenByOrder(t *testing.T) {
	w, want := wheelOf(100), []impl.Timer{}
	for i := range impl.MaxTimers {
		x := impl.Timer{Id: 1000 - i, At: 101 + i*37%40*3}
		next, ok := impl.ArmTimer(w, x.Id, x.At)
		if !ok {
			t.Fatalf("%v is refused", x)
		}
		w, want = next, append(want, x)
	}
	slices.SortStableFunc(want, func(a, b impl.Timer) int { return a.At - b.At })
	ids := []int{}
	for _, x := range want {
		ids = append(ids, x.Id)
	}
	got, told := impl.TurnWheel(w, 120)
	if !slices.Equal(told, ids) || !sameWheels(got, wheelOf(220)) {
		t.Errorf("%v, %v, want %v", got, told, ids)
	}
	short, inSteps := w, []int{}
	for range 120 {
		next, told := impl.TurnWheel(short, 1)
		short, inSteps = next, append(inSteps, told...)
	}
	if !slices.Equal(inSteps, ids) || !sameWheels(short, got) {
		t.Errorf("tick by tick: %v, want %v", inSteps, ids)
	}
}

// armedList is a wheel by the promise alone: all timers in the order in which they were armed.
type armedList struct {
	now    int
	timers []impl.Timer
}

func (l *armedList) stop(id int) bool {
	had := len(l.timers)
	l.timers = slices.DeleteFunc(slices.Clone(l.timers), func(x impl.Timer) bool { return x.Id == id })
	return len(l.timers) < had
}

func (l *armedList) arm(id int, at int) bool {
	was := l.timers
	l.stop(id)
	if id < 1 || id > top || at <= l.now || at > top || len(l.timers) == impl.MaxTimers {
		l.timers = was
		return false
	}
	l.timers = append(l.timers, impl.Timer{Id: id, At: at})
	return true
}

func (l *armedList) turn(by int) []int {
	end, told, stay := min(l.now+by, top), []impl.Timer{}, []impl.Timer{}
	for _, x := range l.timers {
		if x.At <= end {
			told = append(told, x)
		} else {
			stay = append(stay, x)
		}
	}
	slices.SortStableFunc(told, func(a, b impl.Timer) int { return a.At - b.At })
	ids := []int{}
	for _, x := range told {
		ids = append(ids, x.Id)
	}
	l.now, l.timers = end, stay
	return ids
}

func TestLongRunsOfAWheel(t *testing.T) {
	r := rand.New(rand.NewSource(7))
	for run := range 60 {
		first := r.Intn(40)
		if run%4 == 0 {
			first = top - r.Intn(90)
		}
		w, l := wheelOf(first), armedList{now: first}
		for step := range 400 {
			id := r.Intn(100)
			switch r.Intn(12) {
			case 0:
				by := r.Intn(12)
				next, told := impl.TurnWheel(w, by)
				if want := l.turn(by); !slices.Equal(told, want) {
					t.Fatalf("run %d, step %d: told %v, want %v", run, step, told, want)
				}
				w = next
			case 1:
				next, ok := impl.StopTimer(w, id)
				if want := l.stop(id); ok != want {
					t.Fatalf("run %d, step %d: stopped %v, want %v", run, step, ok, want)
				}
				w = next
			default:
				at := w.Now + r.Intn(60) - 2
				next, ok := impl.ArmTimer(w, id, at)
				if want := l.arm(id, at); ok != want {
					t.Fatalf("run %d, step %d: armed %v, want %v", run, step, ok, want)
				}
				w = next
			}
			if !sameWheels(w, wheelOf(l.now, l.timers...)) || !impl.WheelOk(w) || impl.CountTimers(w) != len(l.timers) {
				t.Fatalf("run %d, step %d: %v, want %v", run, step, w, l)
			}
		}
	}
}

// roomyWheel has room behind each list, so that what is appended in place shows in its piece of memory.
func roomyWheel() (impl.Wheel, [][]impl.Timer) {
	w, pieces := wheelOf(5), [][]impl.Timer{}
	for i := range w.Slots {
		piece := make([]impl.Timer, 12)
		for k := range piece {
			piece[k] = impl.Timer{Id: 100*i + k + 1, At: 8 + i + 8*(k%2)}
		}
		w.Slots[i] = piece[:6]
		pieces = append(pieces, piece)
	}
	return w, pieces
}

// answersOf are the wheels of every function that answers one, done and refused.
func answersOf(w impl.Wheel) map[string]impl.Wheel {
	armed, _ := impl.ArmTimer(w, 999, 9)
	anew, _ := impl.ArmTimer(w, 1, 16)
	notArmed, _ := impl.ArmTimer(w, 999, 5)
	stopped, _ := impl.StopTimer(w, 1)
	notStopped, _ := impl.StopTimer(w, 999)
	turned, _ := impl.TurnWheel(w, 5)
	still, _ := impl.TurnWheel(w, 0)
	notTurned, _ := impl.TurnWheel(w, -1)
	return map[string]impl.Wheel{
		"armed": armed, "anew": anew, "not armed": notArmed, "stopped": stopped, "not stopped": notStopped,
		"turned": turned, "still": still, "not turned": notTurned,
	}
}

func TestArgumentsAreNotWrittenIntoNorShared(t *testing.T) {
	w, pieces := roomyWheel()
	if !impl.WheelOk(w) {
		t.Fatal("not WheelOk")
	}
	bad := copyOf(w)
	bad.Slots = bad.Slots[:7]
	for name, arg := range map[string]impl.Wheel{"ok": w, "not ok": bad} {
		was := copyOf(arg)
		for answer, got := range answersOf(arg) {
			for i, list := range got.Slots {
				for k := range list {
					list[k] = impl.Timer{Id: -7, At: -7}
				}
				_ = append(list, impl.Timer{Id: -7, At: -7})
				got.Slots[i] = nil
			}
			if !sameWheels(arg, was) {
				t.Fatalf("%s, %s: the argument is now %v", name, answer, arg)
			}
		}
	}
	_, untouched := roomyWheel()
	if !slices.EqualFunc(pieces, untouched, slices.Equal) {
		t.Error("there was written behind the lists of the argument")
	}
}

func TestListsOfAnAnswerShareNoMemory(t *testing.T) {
	w, _ := roomyWheel()
	for name, got := range answersOf(w) {
		was := copyOf(got)
		for i := range got.Slots {
			_ = append(got.Slots[i], impl.Timer{Id: -7, At: -7})
		}
		if !sameWheels(got, was) {
			t.Errorf("%s: a list reaches into another", name)
		}
	}
	shared := []impl.Timer{{Id: 1, At: 9}}
	got, _ := impl.StopTimer(impl.Wheel{Now: 5, Slots: [][]impl.Timer{shared, shared}}, 1)
	got.Slots[0][0].Id = 7
	if got.Slots[1][0].Id != 1 || shared[0].Id != 1 {
		t.Error("two lists of a refused wheel share their memory")
	}
}
