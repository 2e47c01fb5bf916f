package tests

import (
	"fmt"
	"math/rand"
	"regexp"
	"slices"
	"strconv"
	"strings"
	"sync"
	"testing"

	"loop.example/g00734/impl"
)

// clerk is the desk by the document's words: its engine is the shadow, and what is typed is held against patterns.
type clerk struct {
	m     *shadow
	lines [3]*regexp.Regexp
	told  strings.Builder
}

func linePatterns() [3]*regexp.Regexp {
	number := `(0|-?[1-9][0-9]{0,9})`
	pattern := func(words ...string) *regexp.Regexp {
		return regexp.MustCompile(`\A` + strings.Join(words, " ") + `\z`)
	}
	return [3]*regexp.Regexp{pattern("tick", number), pattern("edit", number, number), pattern("report", number, number, number)}
}

func opBy(patterns [3]*regexp.Regexp, line string) (impl.Op, bool) {
	for kind, p := range patterns {
		words := p.FindStringSubmatch(line)
		if words == nil || len(line) > 80 {
			continue
		}
		o := impl.Op{Kind: kind}
		for i, word := range words[1:] {
			*fieldsOf(&o)[i], _ = strconv.Atoi(word)
		}
		return o, true
	}
	return impl.Op{}, false
}

func eventBy(e impl.Event) string {
	switch {
	case e.Kind == 2 && e.A >= 0 && e.A <= 3:
		return fmt.Sprintf("phase %s %d", []string{"idle", "rolls", "back", "degraded"}[e.A], e.B)
	case e.Kind == 4 && e.B == 1:
		return fmt.Sprintf("fail %d tries", e.A)
	case e.Kind == 4:
		return fmt.Sprintf("fail %d late", e.A)
	case e.Kind == 0:
		return fmt.Sprintf("make %d@%d", e.A, e.B)
	case e.Kind == 1:
		return fmt.Sprintf("drop %d@%d", e.A, e.B)
	case e.Kind == 3:
		return fmt.Sprintf("good %d was %d", e.A, e.B)
	}
	return ""
}

func podBy(p impl.Pod) string {
	return fmt.Sprintf("%d@%d %s %d", p.Id, p.Rev, []string{"new", "runs", "ready", "broken", "going"}[p.State], p.Since)
}

func listBy(texts []string) string {
	if len(texts) == 0 {
		return "-"
	}
	return strings.Join(texts, ", ")
}

func (c *clerk) op(o impl.Op) string {
	ahead, texts := len(c.m.events), []string{}
	c.m.do(o)
	for _, e := range c.m.events[ahead:] {
		texts = append(texts, eventBy(e))
	}
	return []string{listBy(texts), "bad", "idle"}[c.m.codes[len(c.m.codes)-1]]
}

func (c *clerk) line(line string) string {
	if o, ok := opBy(c.lines, line); ok {
		return c.op(o)
	}
	switch line {
	case "state":
		return textBy(c.m.Engine)
	case "pods":
		texts := []string{}
		for _, p := range c.m.Fleet.Pods {
			texts = append(texts, podBy(p))
		}
		return listBy(texts)
	case "next":
		return strconv.Itoa(impl.NextEngine(c.m.Engine))
	case "settled":
		return map[bool]string{true: "yes", false: "no"}[settledBy(c.m.Engine)]
	}
	return "bad"
}

func deskBy(text string) (*clerk, bool) {
	lines := strings.Split(text, "\n")
	if lines[len(lines)-1] == "" {
		lines = lines[:len(lines)-1]
	}
	if len(text) > 4000 || len(lines) > 120 {
		return nil, false
	}
	s := impl.DefaultSpec()
	c := &clerk{lines: linePatterns()}
	if len(lines) > 0 && strings.HasPrefix(lines[0], "spec ") {
		answer := "bad"
		if textOkBy(lines[0][5:]) {
			s, _ = impl.ParseSpec(lines[0][5:])
			answer = "ok"
		}
		c.told.WriteString(answer + "\n")
		lines = lines[1:]
	}
	c.m = shadowOf(s, 1)
	for _, line := range lines {
		c.told.WriteString(c.line(line) + "\n")
	}
	return c, true
}

func checkByClerk(t *testing.T, text string) *clerk {
	t.Helper()
	want, ok := deskBy(text)
	if !ok {
		wantNoTalk(t, strconv.Quote(text), text)
		return nil
	}
	got, ok := impl.RunDesk(text)
	if !ok || got != want.told.String() {
		t.Fatalf("%q, %v: got\n%swant\n%s", text, ok, got, want.told.String())
	}
	if e, ok := impl.DeskEnd(text); !ok || !sameEngines(e, want.m.Engine) || !impl.EngineOk(e) {
		t.Fatalf("%q: %v, %v, want %v", text, e, ok, want.m.Engine)
	}
	return want
}

// chanceDesk is a play of rev 1, as that is the desk's.
func chanceDesk(chance *rand.Rand, n int) (impl.Spec, []impl.Op, *shadow) {
	for {
		s, rev, ops, m := chancePlay(chance, n)
		if rev == 1 {
			return s, ops, m
		}
	}
}

func chanceLook(chance *rand.Rand) string {
	looks := []string{"state", "pods", "next", "settled", "state", "pods", "next", "settled", "", " ", "tick", "edit 2", "report 1 1", "pods ", "tick 1\r", "spec 2 1 1 0 0 1 1 9 50 0 0", "foo"}
	return looks[chance.Intn(len(looks))]
}

// bent has some of its bytes changed, put in or left out.
func bent(chance *rand.Rand, text string) string {
	bytes := []byte("0123456789- +tickedreposalnx\n\r\x00\xff")
	b := []byte(text)
	for range 1 + chance.Intn(3) {
		x, place := bytes[chance.Intn(len(bytes))], chance.Intn(len(b)+1)
		switch {
		case place == len(b) || chance.Intn(3) == 0:
			b = slices.Insert(b, place, x)
		case chance.Intn(2) == 0:
			b = slices.Delete(b, place, place+1)
		default:
			b[place] = x
		}
	}
	return string(b)
}

func TestTalksByChance(t *testing.T) {
	chance, seen := rand.New(rand.NewSource(12)), map[string]int{}
	for range 1500 {
		s, ops, _ := chanceDesk(chance, 5+chance.Intn(100))
		text, _ := impl.SpecText(s)
		lines := []string{"spec " + text}
		for _, o := range ops {
			line, ok := impl.OpLine(o)
			if !ok {
				line = chanceLook(chance)
			}
			lines = append(lines, line)
			if chance.Intn(4) == 0 {
				lines = append(lines, chanceLook(chance))
			}
		}
		switch chance.Intn(8) {
		case 0:
			lines = lines[1:]
		case 1:
			lines[0] = bent(chance, lines[0])
		case 2:
			place := chance.Intn(len(lines))
			lines[place] = bent(chance, lines[place])
		}
		text = strings.Join(lines, "\n") + []string{"", "\n", "\n\n"}[chance.Intn(3)]
		c := checkByClerk(t, text)
		if c == nil {
			seen["refused"]++
			continue
		}
		for _, word := range []string{"make", "drop", "phase idle", "phase rolls", "phase back", "phase degraded", "good", "tries", "late", "\nbad\n", "\nidle\n", "\n-\n", "\n-1\n", "\nyes\n", "\nno\n", " new ", " runs ", " ready ", " going ", "\nidle to", "\nrolls to", "\nback to", "\ndegraded to"} {
			if strings.Contains(c.told.String(), word) {
				seen[word]++
			}
		}
	}
	for word, n := range seen {
		if n < 20 {
			t.Errorf("only %d talks with %q", n, word)
		}
	}
	if len(seen) < 24 {
		t.Errorf("not all was told: %v", seen)
	}
}

// An op that has a line is read from it as it was, and what is read has just that line.
func TestOpsAreReadAsTheyWere(t *testing.T) {
	chance, patterns, had, read := rand.New(rand.NewSource(1212)), linePatterns(), 0, 0
	numbers := []int{0, 0, 1, -1, 10, 9999999999, -9999999999, 10000000000, -10000000000}
	for range 20000 {
		o := impl.Op{Kind: chance.Intn(5) - 1}
		for i, x := range fieldsOf(&o) {
			if i <= o.Kind || chance.Intn(8) == 0 {
				*x = numbers[chance.Intn(len(numbers))]
			}
			if chance.Intn(3) == 0 && i <= o.Kind {
				*x = chance.Intn(1<<(1+chance.Intn(35))) * (1 - 2*chance.Intn(2))
			}
		}
		line, ok := impl.OpLine(o)
		if !ok {
			if line != "" || o.Kind >= 0 && o.Kind < 3 && tellable(o) {
				t.Fatalf("%v: %q", o, line)
			}
			continue
		}
		had++
		if back, ok := impl.ParseOp(line); !ok || back != o || !tellable(o) {
			t.Fatalf("%v: %q, %v, %v", o, line, back, ok)
		}
		line = bent(chance, line)
		back, ok := impl.ParseOp(line)
		if want, wanted := opBy(patterns, line); ok != wanted || back != want {
			t.Fatalf("%q: %v, %v, want %v, %v", line, back, ok, want, wanted)
		}
		if ok {
			read++
			if again, ok := impl.OpLine(back); !ok || again != line {
				t.Fatalf("%q: %v, %q, %v", line, back, again, ok)
			}
		}
	}
	if had < 5000 || read < 500 || read > had-500 {
		t.Errorf("%d of 20000 have a line, %d bent ones are read", had, read)
	}
}

func tellable(o impl.Op) bool {
	for i, x := range fieldsOf(&o) {
		if *x > 9999999999 || *x < -9999999999 || i > o.Kind && *x != 0 {
			return false
		}
	}
	return true
}

// Short lines, all that there are of a few bytes.
func TestLinesOfFewBytes(t *testing.T) {
	patterns, read := linePatterns(), 0
	tails := []string{""}
	for range 5 {
		longer := []string{}
		for _, tail := range tails {
			for _, x := range "01- +k" {
				longer = append(longer, tail+string(x))
			}
		}
		for _, tail := range longer {
			for _, verb := range []string{"tick", "edit", "report", ""} {
				got, ok := impl.ParseOp(verb + tail)
				want, wanted := opBy(patterns, verb+tail)
				if ok != wanted || got != want {
					t.Fatalf("%q: %v, %v", verb+tail, got, ok)
				}
				if ok {
					read++
				}
			}
		}
		tails = longer
	}
	if read < 30 {
		t.Errorf("only %d lines are read", read)
	}
}

// The desk tells what the engine tells: behind all lines it is PlayEngine's, and its lines are the codes and events, each once and in order.
func TestTheDeskIsTheEngine(t *testing.T) {
	chance, full := rand.New(rand.NewSource(121)), 0
	for range 600 {
		s, ops, _ := chanceDesk(chance, 10+chance.Intn(170))
		ops = slices.DeleteFunc(ops, func(o impl.Op) bool { return o.Kind < 0 || o.Kind > 2 })
		if len(ops) > 119 {
			ops = ops[:119]
		}
		if len(ops) == 119 {
			full++
		}
		script, ok := impl.Script(ops)
		spec, _ := impl.SpecText(s)
		text := "spec " + spec + "\n" + script
		e, events, codes, _ := impl.PlayEngine(s, 1, ops)
		end, ok2 := impl.DeskEnd(text)
		told, ok3 := impl.RunDesk(text)
		if !ok || !ok2 || !ok3 || !sameEngines(end, e) {
			t.Fatalf("%q: %v, want %v", text, end, e)
		}
		lines := strings.Split(strings.TrimPrefix(told, "ok\n"), "\n")
		texts := []string{}
		for i, code := range codes {
			if code == impl.OpBad && lines[i] != "bad" || code == impl.OpIdle && lines[i] != "idle" || code == impl.OpDone && (lines[i] == "bad" || lines[i] == "idle") {
				t.Fatalf("%q: line %d tells %q, code %d", text, i, lines[i], code)
			}
			if code == impl.OpDone && lines[i] != "-" {
				texts = append(texts, strings.Split(lines[i], ", ")...)
			}
		}
		want := []string{}
		for _, e := range events {
			want = append(want, impl.EventText(e))
		}
		if len(lines) != len(codes)+1 || !slices.Equal(texts, want) {
			t.Fatalf("%q: %v, want %v", text, texts, want)
		}
	}
	if full < 20 {
		t.Errorf("only %d plays are as long as a talk may be", full)
	}
}

// Any bytes are a talk, or are refused as too many.
func TestTalksOfAnyBytes(t *testing.T) {
	chance := rand.New(rand.NewSource(122))
	for range 2000 {
		b := make([]byte, chance.Intn(4100))
		for i := range b {
			b[i] = byte(chance.Intn(256))
		}
		checkByClerk(t, string(b))
		for i, x := range b {
			b[i] = "tick 1\nedit 2\nstate pods-\xff\x00"[int(x)%27]
		}
		checkByClerk(t, string(b[:min(len(b), 1500)]))
	}
}

func TestEventTextsByChance(t *testing.T) {
	chance := rand.New(rand.NewSource(123))
	for range 5000 {
		e := impl.Event{Kind: chance.Intn(7) - 1, A: chance.Intn(7) - 1, B: chance.Intn(7) - 1}
		if chance.Intn(3) == 0 {
			wildNumbers(chance, []*int{&e.Kind, &e.A, &e.B}[chance.Intn(3)])
		}
		if got := impl.EventText(e); got != eventBy(e) {
			t.Fatalf("%v: %q", e, got)
		}
	}
}

// Desks keep nothing from one call to another, however many are at work.
func TestDesksSideBySide(t *testing.T) {
	chance := rand.New(rand.NewSource(124))
	talks := []string{}
	for range 8 {
		s, ops, _ := chanceDesk(chance, 60)
		ops = slices.DeleteFunc(ops, func(o impl.Op) bool { return o.Kind < 0 || o.Kind > 2 })
		spec, _ := impl.SpecText(s)
		script, _ := impl.Script(ops)
		talks = append(talks, "spec "+spec+"\n"+script+"pods\nstate")
	}
	var running sync.WaitGroup
	for n := range 16 {
		running.Go(func() {
			for i := range talks {
				text := talks[(i+n)%len(talks)]
				want, _ := deskBy(text)
				if got, ok := impl.RunDesk(text); !ok || got != want.told.String() {
					t.Errorf("%q: %q, %v", text, got, ok)
				}
			}
		})
	}
	running.Wait()
}
