package tests

import (
	"math"
	"slices"
	"strconv"
	"strings"
	"testing"

	"loop.example/g00734/impl"
)

// typed is a line at the desk and what it tells.
type typed struct{ line, tells string }

// checkTalk runs the lines with a byte 10 behind the last one and without, and looks at the engine behind them.
func checkTalk(t *testing.T, name string, list []typed, end string) {
	t.Helper()
	lines, want := []string{}, ""
	for _, x := range list {
		lines = append(lines, x.line)
		want += x.tells + "\n"
	}
	text := strings.Join(lines, "\n")
	for _, text := range []string{text, text + "\n"} {
		if got, ok := impl.RunDesk(text); !ok || got != want {
			t.Fatalf("%s: %v, got\n%swant\n%s", name, ok, got, want)
		}
		if e, ok := impl.DeskEnd(text); !ok || impl.EngineText(e) != end {
			t.Fatalf("%s: %v, %v, want %q", name, e, ok, end)
		}
	}
}

func wantNoTalk(t *testing.T, name, text string) {
	t.Helper()
	if got, ok := impl.RunDesk(text); ok || got != "" {
		t.Errorf("%s: RunDesk %q, %v", name, got, ok)
	}
	if e, ok := impl.DeskEnd(text); ok || !sameEngines(e, impl.Engine{}) {
		t.Errorf("%s: DeskEnd %v, %v", name, e, ok)
	}
}

func wantOp(t *testing.T, line string, want impl.Op) {
	t.Helper()
	if got, ok := impl.ParseOp(line); !ok || got != want {
		t.Errorf("ParseOp of %q: %v, %v, want %v", line, got, ok, want)
	}
}

func wantNoOp(t *testing.T, line string) {
	t.Helper()
	if got, ok := impl.ParseOp(line); ok || got != (impl.Op{}) {
		t.Errorf("ParseOp of %q: %v, %v", line, got, ok)
	}
	// At the desk it is none either.
	if got, ok := impl.RunDesk("tick 0\n" + strings.ReplaceAll(line, "\n", " ") + "\nstate"); !ok || got != "make 1@1, make 2@1, make 3@1, make 4@1\nbad\nidle to 1 good 1 pods 4 avail 0\n" {
		t.Errorf("RunDesk of %q: %q, %v", line, got, ok)
	}
}

func TestDeskLimits(t *testing.T) {
	if got := []int{impl.MaxTalk, impl.MaxTalkLines, impl.MaxLineBytes}; !slices.Equal(got, []int{4000, 120, 80}) {
		t.Errorf("%v", got)
	}
}

func TestLinesOfEachKind(t *testing.T) {
	wantOp(t, "tick 5", tickOp(5))
	wantOp(t, "edit 2 9", editOp(2, 9))
	wantOp(t, "report 3 1 2", reportOp(3, 1, 2))
	wantOp(t, "report 1 2 3", impl.Op{Kind: 2, A: 1, B: 2, C: 3})
	wantOp(t, "report 3 1 -5", impl.Op{Kind: 2, A: 3, B: 1, C: -5})
	// What the engine would refuse is an op all the same.
	wantOp(t, "tick 2001", tickOp(2001))
	wantOp(t, "tick -1", tickOp(-1))
	wantOp(t, "edit 0 -13", editOp(0, -13))
}

// The verbs have a number each, and no line has another count of them.
func TestWordsTooFewAndTooMany(t *testing.T) {
	for verb, n := range map[string]int{"tick": 1, "edit": 2, "report": 3, "state": 0, "pods": 0, "next": 0, "settled": 0} {
		for count := range 6 {
			line := verb + strings.Repeat(" 7", count)
			switch {
			case n > 0 && count == n:
				o := impl.Op{Kind: n - 1}
				for _, x := range []*int{&o.A, &o.B, &o.C}[:n] {
					*x = 7
				}
				wantOp(t, line, o)
			case n == 0 && count == 0:
				if o, ok := impl.ParseOp(line); ok || o != (impl.Op{}) {
					t.Errorf("%q: %v, %v", line, o, ok)
				}
			default:
				wantNoOp(t, line)
			}
		}
	}
}

func TestNumbersInLines(t *testing.T) {
	for word, want := range map[string]int{
		"0": 0, "1": 1, "9": 9, "-1": -1, "-9": -9, "10": 10, "-10": -10, "100": 100, "1234567890": 1234567890, "-1234567890": -1234567890,
		"9999999999": 9999999999, "-9999999999": -9999999999, "1000000000": 1000000000, "999999999": 999999999,
	} {
		wantOp(t, "tick "+word, tickOp(want))
		wantOp(t, "edit 3 "+word, editOp(3, want))
		wantOp(t, "edit "+word+" 3", editOp(want, 3))
		wantOp(t, "report "+word+" 4 5", reportOp(want, 4, 5))
		wantOp(t, "report 4 "+word+" 5", reportOp(4, want, 5))
		wantOp(t, "report 4 5 "+word, reportOp(4, 5, want))
	}
	for _, word := range []string{
		"", "-", "+", "--", "--1", "-0", "+0", "+1", "00", "01", "-01", "0001", "00000000001", "10000000000", "-10000000000", "01234567890", "99999999999", "-99999999999",
		"9223372036854775807", "-9223372036854775808", "9223372036854775808", "18446744073709551617", "1e3", "0x1", "0b1", "1_0", "1.0", "1,0", "1-", "-1-", "1-1", "a", "1a", "a1",
		"5\r", "\r5", "5\t", "5\x00", "\x005", "5\n", "\n5", "\xff", "5\xff", "\u0665", "\uff15", "5\u00a0", "\u22125",
	} {
		wantNoOp(t, "tick "+word)
		wantNoOp(t, "edit "+word+" 3")
		wantNoOp(t, "edit 3 "+word)
		wantNoOp(t, "report "+word+" 4 5")
		wantNoOp(t, "report 4 "+word+" 5")
		wantNoOp(t, "report 4 5 "+word)
	}
}

func TestBlanksInLines(t *testing.T) {
	for _, line := range []string{
		"", " ", "  ", "tick", "tick ", " tick 1", "  tick 1", "tick  1", "tick 1 ", "tick 1  ", "tick\t1", "tick\u00a01", "tick1", "tick-1", "tick 1\t", "tick 1\r", "tick 1\n", "\ntick 1",
		" edit 1 2", "edit  1 2", "edit 1  2", "edit 1 2 ", "edit1 2", "edit 12", "edit  1", "edit 1 ", "edit\t1\t2",
		" report 1 2 3", "report  1 2 3", "report 1  2 3", "report 1 2  3", "report 1 2 3 ", "report 1  2", "report  1  2", "report 1 23",
		" state", "state ", " state ", "pods ", " pods", "next ", " next", "settled ", " settled", "settled\r", "state\x00",
	} {
		wantNoOp(t, line)
	}
}

// Verbs are their letters alone: not others, nor more, nor fewer, nor some that are like them.
func TestVerbsOfLines(t *testing.T) {
	for _, verb := range []string{
		"Tick", "TICK", "ticK", "tic", "ticks", "tickk", "ttick", "tock", "kcit", "tick\x00", "tick\x00\x00", "\x00tick", "ti ck", "ti\x00ck", "tick.", "tick:", "tick0", "\xfftick", "tick\xff", "ti\xffck",
		"t\u0131ck", "\u0174ick", "\u0474ick", "\uff54\uff49\uff43\uff4b", "tick\u0301", "tick\u200b", "a", "0", "1", "-", "tick tick", "settledtick", "\"tick\"", "ticktick",
	} {
		wantNoOp(t, verb+" 1")
	}
	for _, verb := range []string{"Edit", "edi", "edits", "edit\x00", "exit", "tick", "report", "state", "", "ed\xeft"} {
		wantNoOp(t, verb+" 1 2")
	}
	for _, verb := range []string{"Report", "repor", "reports", "report\x00", "reporttt", "reportttt", "rep\x00rt", "tick", "edit", "pods", ""} {
		wantNoOp(t, verb+" 1 2 3")
	}
	for _, line := range []string{
		"State", "stat", "states", "state\x00", "pod", "Pods", "podss", "pods\x00", "nex", "nextt", "next\x00", "settle", "settleds", "settled\x00", "settledsettled", "Settled",
		"idle", "bad", "ok", "spec", "spec 4 1 1 3 3 2 16 20 200 0 0", "spec ", "help", "?", "#", "\x00", "\x00\x00\x00\x00\x00\x00\x00", "\xff\xfe", "\u00e9",
		"make 1@1", "drop 1@1", "phase idle 1", "tick 1;tick 1", "tick 1, tick 1", "tick 1\x00", "tick x", "1 tick",
	} {
		wantNoOp(t, line)
	}
}

func TestLongLines(t *testing.T) {
	for _, n := range []int{78, 79, 80, 81, 82, 1000, 3900} {
		wantNoOp(t, strings.Repeat("x", n))
		wantNoOp(t, "tick "+strings.Repeat("1", n-5))
		wantNoOp(t, "tick "+strings.Repeat("0", n-6)+"1")
		wantNoOp(t, "tick "+strings.Repeat(" ", n-6)+"1")
		wantNoOp(t, "tick 1"+strings.Repeat(" ", n-6))
		wantNoOp(t, "report 1 2 3"+strings.Repeat(" 4", (n-12)/2))
		wantNoOp(t, "state"+strings.Repeat(" ", n-5))
		wantNoOp(t, "state"+strings.Repeat("\x00", n-5))
	}
	// The longest line of an op has 42 bytes.
	wantOp(t, "report -9999999999 -1000000000 -1234567890", reportOp(-9999999999, -1000000000, -1234567890))
}

func wantLine(t *testing.T, o impl.Op, want string) {
	t.Helper()
	if got, ok := impl.OpLine(o); !ok || got != want {
		t.Errorf("OpLine of %v: %q, %v, want %q", o, got, ok, want)
	}
	wantOp(t, want, o)
}

func wantNoLine(t *testing.T, o impl.Op) {
	t.Helper()
	if got, ok := impl.OpLine(o); ok || got != "" {
		t.Errorf("OpLine of %v: %q, %v", o, got, ok)
	}
	for _, ops := range [][]impl.Op{{o}, {o, tickOp(1)}, {tickOp(1), o}, {tickOp(1), o, tickOp(1)}} {
		if got, ok := impl.Script(ops); ok || got != "" {
			t.Errorf("Script of %v: %q, %v", ops, got, ok)
		}
	}
}

func TestOpLine(t *testing.T) {
	wantLine(t, impl.Op{}, "tick 0")
	wantLine(t, tickOp(5), "tick 5")
	wantLine(t, tickOp(-5), "tick -5")
	wantLine(t, editOp(2, 0), "edit 2 0")
	wantLine(t, editOp(0, 0), "edit 0 0")
	wantLine(t, editOp(-3, -10), "edit -3 -10")
	wantLine(t, reportOp(3, 1, 2), "report 3 1 2")
	wantLine(t, reportOp(0, 0, 0), "report 0 0 0")
	wantLine(t, reportOp(0, -1, 20), "report 0 -1 20")
}

// fieldsOf are the fields of an op, in the order of the words of a line.
func fieldsOf(o *impl.Op) []*int { return []*int{&o.A, &o.B, &o.C} }

// A line tells numbers of up to ten digits, and nothing of the fields that it does not name.
func TestWhatALineCanTell(t *testing.T) {
	for kind := range 3 {
		for i := range 3 {
			for _, x := range []int{1, -1, 7, 1000, 9999999999, -9999999999, 10000000000, -10000000000, math.MaxInt, math.MinInt, 0} {
				o := impl.Op{Kind: kind}
				*fieldsOf(&o)[i] = x
				words := []string{[]string{"tick", "edit", "report"}[kind]}
				for _, n := range fieldsOf(&o)[:kind+1] {
					words = append(words, strconv.Itoa(*n))
				}
				if x == 0 || i <= kind && x >= -9999999999 && x <= 9999999999 {
					wantLine(t, o, strings.Join(words, " "))
				} else {
					wantNoLine(t, o)
				}
			}
		}
	}
	wantNoLine(t, impl.Op{Kind: 0, A: 2, B: 1})
	wantNoLine(t, impl.Op{Kind: 0, A: 2, B: 1, C: 3})
	wantNoLine(t, impl.Op{Kind: 1, A: 2, B: 1, C: -3})
	for _, kind := range []int{-1, 3, 4, 6, 7, 100, -100, math.MaxInt, math.MinInt} {
		wantNoLine(t, impl.Op{Kind: kind})
		wantNoLine(t, impl.Op{Kind: kind, A: 1})
		wantNoLine(t, impl.Op{Kind: kind, A: 1, B: 2, C: 3})
	}
}

func TestEventText(t *testing.T) {
	for _, c := range []struct {
		e    impl.Event
		want string
	}{
		{made(12, 345), "make 12@345"},
		{made(0, 0), "make 0@0"},
		{made(-1, math.MinInt), "make -1@-9223372036854775808"},
		{dropped(12, 345), "drop 12@345"},
		{dropped(math.MaxInt, -2), "drop 9223372036854775807@-2"},
		{phaseIs(0, 7), "phase idle 7"},
		{phaseIs(1, 1000), "phase rolls 1000"},
		{phaseIs(2, 0), "phase back 0"},
		{phaseIs(3, -5), "phase degraded -5"},
		{phaseIs(4, 7), ""},
		{phaseIs(-1, 7), ""},
		{phaseIs(math.MaxInt, 7), ""},
		{phaseIs(math.MinInt, 7), ""},
		{goodIs(3, 2), "good 3 was 2"},
		{goodIs(-3, 1000000), "good -3 was 1000000"},
		{failed(2, 1), "fail 2 tries"},
		{failed(2, 2), "fail 2 late"},
		// Whatever is not 1 is late.
		{failed(2, 0), "fail 2 late"},
		{failed(2, 3), "fail 2 late"},
		{failed(-2, -1), "fail -2 late"},
		{failed(0, math.MinInt), "fail 0 late"},
		{impl.Event{}, "make 0@0"},
		{impl.Event{Kind: 5}, ""},
		{impl.Event{Kind: 5, A: 1, B: 1}, ""},
		{impl.Event{Kind: -1, A: 1, B: 1}, ""},
		{impl.Event{Kind: math.MaxInt, A: 1, B: 1}, ""},
		{impl.Event{Kind: math.MinInt, A: 1, B: 1}, ""},
	} {
		if got := impl.EventText(c.e); got != c.want {
			t.Errorf("EventText of %v: %q, want %q", c.e, got, c.want)
		}
	}
}

func TestADeskOfTheDefault(t *testing.T) {
	checkTalk(t, "the default", []typed{
		{"state", "idle to 1 good 1 pods 0 avail 0"},
		{"pods", "-"},
		{"next", "-1"},
		{"settled", "no"},
		{"tick 1", "make 1@1, make 2@1, make 3@1, make 4@1"},
		{"pods", "1@1 new 1, 2@1 new 1, 3@1 new 1, 4@1 new 1"},
		{"next", "21"},
		{"report 1 1 1", "-"},
		{"report 1 1 1", "idle"},
		{"report 1 2 2", "-"},
		{"report 2 1 2", "-"},
		{"report 3 1 2", "-"},
		{"report 5 1 2", "idle"},
		{"tick 1", "-"},
		{"report 4 1 2", "-"},
		{"tick 2", "-"},
		{"pods", "1@1 ready 1, 2@1 ready 1, 3@1 ready 1, 4@1 ready 2"},
		{"state", "idle to 1 good 1 pods 4 avail 3"},
		{"next", "5"},
		{"settled", "no"},
		{"tick 1", "-"},
		{"settled", "yes"},
		{"next", "-1"},
		{"edit 2 0", "phase rolls 2, drop 1@1, make 5@2"},
		{"settled", "no"},
		{"pods", "1@1 going 5, 2@1 ready 1, 3@1 ready 1, 4@1 ready 2, 5@2 new 5"},
		{"report 1 3 4", "make 6@2"},
		{"report 5 1 2", "-"},
		{"report 6 1 2", "-"},
		{"tick 3", "drop 2@1, drop 3@1"},
		{"report 2 2 4", "make 7@2"},
		{"report 3 2 4", "make 8@2"},
		{"report 7 1 2", "-"},
		{"report 8 1 2", "-"},
		{"tick 3", "drop 4@1"},
		{"state", "rolls to 2 good 1 pods 5 avail 4"},
		{"report 4 2 4", "good 2 was 1, phase idle 2"},
		{"state", "idle to 2 good 2 pods 4 avail 4"},
		{"settled", "yes"},
	}, "idle to 2 good 2 pods 4 avail 4")
}

func TestADeskThatGoesBack(t *testing.T) {
	checkTalk(t, "too many tries", []typed{
		{"spec 2 1 1 0 0 1 1 9 50 0 0", "ok"},
		{"tick 1", "make 1@1, make 2@1"},
		{"report 1 1 2", "-"},
		{"report 2 1 2", "-"},
		{"settled", "yes"},
		{"edit 2 0", "phase rolls 2, drop 1@1, make 3@2"},
		{"report 3 1 3", "drop 3@2, fail 2 tries, phase back 1"},
		{"state", "back to 1 good 1 pods 3 avail 1"},
		{"pods", "1@1 going 1, 2@1 ready 1, 3@2 going 1"},
		{"next", "10"},
		{"report 3 2 4", "make 4@1"},
		{"report 1 2 4", "-"},
		{"report 4 1 2", "phase degraded 1"},
		{"settled", "yes"},
		{"next", "-1"},
		{"state", "degraded to 1 good 1 pods 2 avail 2"},
		{"tick 2000", "-"},
		{"report 2 2 3", "-"},
		{"settled", "no"},
	}, "degraded to 1 good 1 pods 2 avail 1")
	checkTalk(t, "too late", []typed{
		{"spec 1 1 0 2 3 1 1 9 5 0 0", "ok"},
		{"tick 0", "make 1@1"},
		{"report 1 1 2", "-"},
		{"tick 2", "-"},
		{"pods", "1@1 ready 0"},
		{"edit 7 0", "phase rolls 7, make 2@7"},
		{"next", "7"},
		{"tick 4", "-"},
		{"tick 1", "fail 7 late, phase back 1, drop 2@7"},
		{"tick 5", "fail 1 late, phase degraded 1"},
		{"pods", "1@1 ready 0, 2@7 going 7"},
		{"report 2 1 4", "-"},
		{"pods", "1@1 ready 0"},
		{"settled", "yes"},
	}, "degraded to 1 good 1 pods 1 avail 1")
}

// What is bad and what is idle leaves the engine as it was, and tells no events of the ops ahead once more.
func TestWhatIsBadAndWhatIsIdle(t *testing.T) {
	list := []typed{{"spec 2 1 1 0 0 1 1 9 50 0 0", "ok"}, {"tick 1", "make 1@1, make 2@1"}}
	look := []typed{{"state", "idle to 1 good 1 pods 2 avail 0"}, {"pods", "1@1 new 1, 2@1 new 1"}, {"next", "10"}}
	for _, line := range []string{
		"tick -1", "tick 2001", "tick -9999999999", "tick 9999999999", "edit 0 0", "edit -1 0", "edit 1001 0", "edit 2 -1", "edit 2 13", "edit 9999999999 9999999999",
		"report 1 0 2", "report 1 -1 2", "report 1 1 0", "report 1 1 -1", "report 1 1 5", "report 9 0 2", "report 1 9999999999 2",
	} {
		list = append(list, slices.Concat([]typed{{line, "bad"}}, look[:1])...)
	}
	list = append(list, look...)
	for _, line := range []string{"report 3 1 2", "report 0 1 2", "report -1 1 2", "report 9999999999 1 2", "report 3 1 4"} {
		list = append(list, slices.Concat([]typed{{line, "idle"}}, look[:1])...)
	}
	list = append(list, look...)
	checkTalk(t, "bad and idle", list, "idle to 1 good 1 pods 2 avail 0")
	checkTalk(t, "idle for what was taken", []typed{
		{"edit 1 1", "phase rolls 1, make 1@1"},
		{"report 1 5 1", "-"},
		{"report 1 5 2", "idle"},
		{"report 1 4 2", "idle"},
		{"report 1 1 4", "idle"},
		{"report 1 6 4", "make 2@1"},
		{"report 1 7 4", "idle"},
		{"pods", "2@1 new 0"},
	}, "rolls to 1 good 1 pods 1 avail 0")
}

func TestLinesOfATalk(t *testing.T) {
	idle := "idle to 1 good 1 pods 0 avail 0"
	for _, c := range []struct{ name, text, want string }{
		{"empty", "", ""},
		{"a single byte 10", "\n", "bad\n"},
		{"two", "\n\n", "bad\nbad\n"},
		{"a blank", " ", "bad\n"},
		{"a blank and a byte 10", " \n", "bad\n"},
		{"one line", "state", idle + "\n"},
		{"one line and a byte 10", "state\n", idle + "\n"},
		{"one line and two", "state\n\n", idle + "\nbad\n"},
		{"an empty line amid", "next\n\nsettled", "-1\nbad\nno\n"},
		{"an empty line ahead", "\nnext", "bad\n-1\n"},
		{"a byte 13", "next\r\nsettled\r\n", "bad\nbad\n"},
		{"a byte 13 alone", "next\rsettled", "bad\n"},
		{"a byte 13 behind the last", "next\n\r", "-1\nbad\n"},
		{"a byte 0", "next\n\x00\nsettled", "-1\nbad\nno\n"},
		{"bytes that are no text", "next\n\xe2\nsettled\n\xe2\x82\npods", "-1\nbad\nno\nbad\n-\n"},
		{"a rune cut by an end", "\xf0\x9f\x98\nnext", "bad\n-1\n"},
		{"runes whose lowest byte is 10", "next\u010anext\u0a0anext", "bad\n"},
		{"another end", "next\u2028next\u0085next\vnext\fnext", "bad\n"},
	} {
		if got, ok := impl.RunDesk(c.text); !ok || got != c.want {
			t.Errorf("%s: %q, %v, want %q", c.name, got, ok, c.want)
		}
		if e, ok := impl.DeskEnd(c.text); !ok || !sameEngines(e, shadowOf(impl.DefaultSpec(), 1).Engine) {
			t.Errorf("%s: %v, %v", c.name, e, ok)
		}
	}
}

// deskSpec looks at the spec that the engine has behind a text.
func deskSpec(t *testing.T, text string) impl.Spec {
	t.Helper()
	e, ok := impl.DeskEnd(text)
	if !ok || e.Target != 1 || e.Good != 1 {
		t.Fatalf("%q: %v, %v", text, e, ok)
	}
	return e.Spec
}

func TestTheSpecLine(t *testing.T) {
	for name, s := range goodSpecs() {
		text, _ := impl.SpecText(s)
		for _, end := range []string{"", "\n", "\nnext", "\nnext\n", "\nspec " + text} {
			line := "spec " + text + end
			want := "ok\n" + map[string]string{"\nnext": "-1\n", "\nnext\n": "-1\n", "\nspec " + text: "bad\n"}[end]
			if got, ok := impl.RunDesk(line); !ok || got != want || deskSpec(t, line) != s {
				t.Errorf("%s: %q, %v, want %q", name, got, ok, want)
			}
		}
		checkTalk(t, name+" behind another line", []typed{{"next", "-1"}, {"spec " + text, "bad"}}, "idle to 1 good 1 pods 0 avail 0")
		if got := deskSpec(t, "next\nspec "+text); got != impl.DefaultSpec() {
			t.Errorf("%s: %v", name, got)
		}
	}
	for _, line := range []string{
		"spec ", "spec  ", "spec", "specs 2 1 1 0 0 1 1 9 50 0 0", "Spec 2 1 1 0 0 1 1 9 50 0 0", " spec 2 1 1 0 0 1 1 9 50 0 0", "spec  2 1 1 0 0 1 1 9 50 0 0", "spec 2 1 1 0 0 1 1 9 50 0 0 ",
		"spec 2 1 1 0 0 1 1 9 50 0", "spec 2 1 1 0 0 1 1 9 50 0 0 0", "spec 02 1 1 0 0 1 1 9 50 0 0", "spec 2 1 1 -0 0 1 1 9 50 0 0", "spec 2 1 1 0 0 1 1 9 50 0 0\r", "spec\t2 1 1 0 0 1 1 9 50 0 0",
		"spec 2 0 0 0 0 1 1 9 50 0 0", "spec 13 1 1 0 0 1 1 9 50 0 0", "spec 2 1 1 0 0 1 1 9 0 0 0", "spec spec 2 1 1 0 0 1 1 9 50 0 0", "spec x", "spec 2", "spec \xff", "2 1 1 0 0 1 1 9 50 0 0",
	} {
		checkTalk(t, line, []typed{{line, "bad"}, {"spec 2 1 1 0 0 1 1 9 50 0 0", "bad"}, {"tick 0", "make 1@1, make 2@1, make 3@1, make 4@1"}}, "idle to 1 good 1 pods 4 avail 0")
		if got := deskSpec(t, line); got != impl.DefaultSpec() {
			t.Errorf("%q: %v", line, got)
		}
	}
	checkTalk(t, "an empty line ahead", []typed{{"", "bad"}, {"spec 2 1 1 0 0 1 1 9 50 0 0", "bad"}, {"tick 0", "make 1@1, make 2@1, make 3@1, make 4@1"}}, "idle to 1 good 1 pods 4 avail 0")
	if got, ok := impl.RunDesk("spec 1\npods"); !ok || got != "bad\n-\n" {
		t.Errorf("%q, %v", got, ok)
	}
}

// The edit that changes Replicas does so in the engine of the spec line.
func TestPodsOfADesk(t *testing.T) {
	checkTalk(t, "one pod, and several", []typed{
		{"spec 1 1 0 0 3 1 1 9 50 0 0", "ok"},
		{"pods", "-"},
		{"tick 0", "make 1@1"},
		{"pods", "1@1 new 0"},
		{"edit 1 3", "phase rolls 1, make 2@1, make 3@1"},
		{"pods", "1@1 new 0, 2@1 new 0, 3@1 new 0"},
		{"tick 2", "-"},
		{"report 2 1 3", "drop 2@1"},
		{"report 3 1 1", "-"},
		{"report 1 1 2", "-"},
		{"pods", "1@1 ready 2, 2@1 going 2, 3@1 runs 2"},
		{"next", "3"},
		{"tick 1", "make 4@1"},
		{"next", "11"},
	}, "rolls to 1 good 1 pods 4 avail 1")
	checkTalk(t, "none once more", []typed{
		{"spec 1 1 0 0 3 1 1 9 50 0 0", "ok"},
		{"edit 9 0", "phase rolls 9, make 1@9"},
		{"report 1 1 3", "drop 1@9"},
		{"pods", "1@9 going 0"},
		{"report 1 2 4", "-"},
		{"pods", "-"},
		{"next", "1"},
	}, "rolls to 9 good 1 pods 0 avail 0")
}

func TestHowLongATalkMayBe(t *testing.T) {
	line := strings.Repeat("x", 39) + "\n"
	full := "tick 7\n" + strings.Repeat(line, 99)
	full += strings.Repeat("x", impl.MaxTalk-len(full)-1) + "\n"
	many := strings.Repeat("é", impl.MaxTalk/2)
	for name, text := range map[string]string{"with a byte 10": full, "without": full[:len(full)-1] + "x", "one byte less": full[:len(full)-1], "an empty line at the end": full[:len(full)-2] + "\n\n"} {
		n := strings.Count(full, "\n")
		if name == "an empty line at the end" {
			n++
		}
		got, ok := impl.RunDesk(text)
		e, ok2 := impl.DeskEnd(text)
		if !ok || !ok2 || got != "make 1@1, make 2@1, make 3@1, make 4@1\n"+strings.Repeat("bad\n", n-1) || e.Now != 7 {
			t.Errorf("%s: %q, %v, %v, %v", name, got, ok, e, ok2)
		}
		if name != "one byte less" {
			wantNoTalk(t, name+", one more", text+"x")
			wantNoTalk(t, name+", one more end", text+"\n")
		}
	}
	for _, text := range []string{strings.Repeat("x", 4000), many, strings.Repeat(" ", 3999) + "\n", strings.Repeat("\xff", 4000)} {
		if got, ok := impl.RunDesk(text); !ok || got != "bad\n" {
			t.Errorf("one long line: %q, %v", got, ok)
		}
	}
	wantNoTalk(t, "one long line", strings.Repeat("x", 4001))
	wantNoTalk(t, "bytes count, not runes", many+"x")
	wantNoTalk(t, "runes of four bytes", strings.Repeat("\U0001f600", 1001))
	wantNoTalk(t, "long", "tick 1\n"+strings.Repeat("\n", 4000))
	wantNoTalk(t, "long by far", strings.Repeat("tick 1\n", 100000))
}

func TestHowManyLinesATalkMayHave(t *testing.T) {
	text := strings.Repeat("tick 1\n", 119)
	rest := "make 1@1, make 2@1, make 3@1, make 4@1\n"
	for _, last := range []string{"tick 1", "tick 1\n"} {
		e, ok := impl.DeskEnd(text + last)
		got, ok2 := impl.RunDesk(text + last)
		if !ok || !ok2 || e.Now != 120 || strings.Count(got, "\n") != 120 || !strings.HasPrefix(got, rest+"-\n-\n") {
			t.Errorf("120 lines: %v, %v, %q, %v", e, ok, got, ok2)
		}
		wantNoTalk(t, "121 lines", "tick 1\n"+text+last)
		wantNoTalk(t, "121 lines with a spec", "spec 2 1 1 0 0 1 1 9 50 0 0\n"+text+last)
	}
	wantNoTalk(t, "121 lines, the last empty", text+"tick 1\n\n")
	wantNoTalk(t, "121 lines, the last a blank", text+"tick 1\n ")
	if got, ok := impl.RunDesk(strings.Repeat("\n", 120)); !ok || got != strings.Repeat("bad\n", 120) {
		t.Errorf("120 empty lines: %q, %v", got, ok)
	}
	wantNoTalk(t, "121 empty lines", strings.Repeat("\n", 121))
	wantNoTalk(t, "120 empty lines and one", strings.Repeat("\n", 120)+"x")
	got, ok := impl.RunDesk("spec 2 1 1 0 0 1 1 9 50 0 0\n" + text)
	if !ok || strings.Count(got, "\n") != 120 || !strings.HasPrefix(got, "ok\nmake 1@1, make 2@1\n-\n") {
		t.Errorf("120 lines with a spec: %q, %v", got, ok)
	}
}

func wantScript(t *testing.T, ops []impl.Op, want string) {
	t.Helper()
	if got, ok := impl.Script(ops); !ok || got != want {
		t.Errorf("Script of %v: %q, %v, want %q", ops, got, ok, want)
	}
}

func wantNoScript(t *testing.T, name string, ops []impl.Op) {
	t.Helper()
	if got, ok := impl.Script(ops); ok || got != "" {
		t.Errorf("%s: Script %q, %v", name, got, ok)
	}
}

func TestScript(t *testing.T) {
	wantScript(t, nil, "")
	wantScript(t, []impl.Op{}, "")
	wantScript(t, []impl.Op{tickOp(3)}, "tick 3\n")
	wantScript(t, []impl.Op{tickOp(3), editOp(2, 0)}, "tick 3\nedit 2 0\n")
	wantScript(t, []impl.Op{reportOp(1, 2, 3), tickOp(-1), tickOp(-1), editOp(5, 6)}, "report 1 2 3\ntick -1\ntick -1\nedit 5 6\n")
	ticks := slices.Repeat([]impl.Op{tickOp(1)}, 121)
	wantScript(t, ticks[:120], strings.Repeat("tick 1\n", 120))
	wantNoScript(t, "121", ticks)
	wantNoScript(t, "many", slices.Repeat(ticks, 1000))
	// A line of 43 bytes with its end, 92 times, and then 44 bytes more.
	long := slices.Repeat([]impl.Op{reportOp(-9999999999, -9999999999, -9999999999)}, 92)
	full := append(slices.Clone(long), reportOp(9999999999, 9999999999, 9999999), tickOp(5))
	text, ok := impl.Script(full)
	if !ok || len(text) != impl.MaxTalk {
		t.Errorf("%d bytes, %v", len(text), ok)
	}
	wantScript(t, full[:93], text[:len(text)-7])
	wantNoScript(t, "4001 bytes", append(slices.Clone(full[:93]), tickOp(55)))
	wantNoScript(t, "4007 bytes", append(slices.Clone(full), tickOp(5)))
	wantNoScript(t, "120 long lines", append(slices.Clone(long), long[:28]...))
	if got, ok := impl.RunDesk(text); !ok || strings.Count(got, "\n") != 94 {
		t.Errorf("%q, %v", got, ok)
	}
}

func TestDesksAreNotWrittenIntoNorShared(t *testing.T) {
	ops := roomy([]impl.Op{tickOp(1), reportOp(1, 1, 2), editOp(2, 0), tickOp(25)}, impl.Op{Kind: -7})
	kept := slices.Clone(ops[:cap(ops)])
	text, _ := impl.Script(ops)
	a, _ := impl.DeskEnd(text)
	b, _ := impl.DeskEnd(text)
	want := fleetCopy(a.Fleet)
	scribblePods(a.Fleet.Pods)
	c, _ := impl.DeskEnd(text)
	if !sameFleets(b.Fleet, want) || !sameFleets(c.Fleet, want) {
		t.Errorf("%v, %v, want %v", b.Fleet, c.Fleet, want)
	}
	if again, ok := impl.Script(ops); !ok || again != text || !slices.Equal(ops[:cap(ops)], kept) {
		t.Errorf("%q, %v, %v", again, ok, ops[:cap(ops)])
	}
}
