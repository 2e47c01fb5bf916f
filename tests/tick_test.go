package tests

import (
	"math"
	"slices"
	"strconv"
	"strings"
	"testing"

	"loop.example/g00734/impl"
)

const top = impl.MaxTick

// edgeTicks are both ends of the ticks, what lies beside them, and some between.
func edgeTicks() []int {
	return []int{0, 1, 2, 7, 999, 1000, 1001, 12034, top / 2, top/2 + 1, top - 1000, top - 1, top}
}

func noTicks() []int {
	return []int{-1, -2, -1000, -top, top + 1, 2 * top, math.MinInt, math.MaxInt, math.MinInt + top, math.MaxInt - top}
}

func TestLimitsAreAsDocumented(t *testing.T) {
	if impl.MaxTick != 1000000000 || impl.MaxList != 300 {
		t.Errorf("MaxTick %d, MaxList %d", impl.MaxTick, impl.MaxList)
	}
}

func TestTickOk(t *testing.T) {
	for _, x := range edgeTicks() {
		if !impl.TickOk(x) {
			t.Errorf("TickOk(%d) is false", x)
		}
	}
	for _, x := range noTicks() {
		if impl.TickOk(x) {
			t.Errorf("TickOk(%d) is true", x)
		}
	}
}

func TestAddTick(t *testing.T) {
	for _, c := range []struct{ t, d, want int }{
		{5, 3, 8},
		{5, -3, 2},
		{5, -5, 0},
		{5, -6, 0},
		{0, 0, 0},
		{0, -1, 0},
		{0, top, top},
		{0, -top, 0},
		{1, top, top},
		{top, 0, top},
		{top, 1, top},
		{top, top, top},
		{top, -1, top - 1},
		{top, -top, 0},
		{top - 1, 1, top},
		{top - 1, 2, top},
		{-1, 0, -1},
		{-1, 5, -1},
		{top + 1, 0, -1},
		{top + 1, -5, -1},
		{0, top + 1, -1},
		{top, -top - 1, -1},
		{0, math.MaxInt, -1},
		{top, math.MaxInt, -1},
		{top, math.MinInt, -1},
		{math.MaxInt, math.MaxInt, -1},
		{math.MaxInt, 1, -1},
		{math.MinInt, math.MinInt, -1},
		{math.MinInt, -1, -1},
	} {
		if got := impl.AddTick(c.t, c.d); got != c.want {
			t.Errorf("AddTick(%d, %d) = %d, want %d", c.t, c.d, got, c.want)
		}
	}
}

func TestAddingNeverTurnsOver(t *testing.T) {
	for _, a := range edgeTicks() {
		for _, d := range edgeTicks() {
			more, less := impl.AddTick(a, d), impl.AddTick(a, -d)
			if !impl.TickOk(more) || more < a || more < d {
				t.Errorf("AddTick(%d, %d) = %d", a, d, more)
			}
			if !impl.TickOk(less) || less > a {
				t.Errorf("AddTick(%d, %d) = %d", a, -d, less)
			}
		}
	}
}

func TestAddingIsTheSameInEitherOrder(t *testing.T) {
	for _, a := range edgeTicks() {
		for _, b := range edgeTicks() {
			if x, y := impl.AddTick(a, b), impl.AddTick(b, a); x != y {
				t.Errorf("AddTick(%d, %d) = %d, in the other order %d", a, b, x, y)
			}
			for _, c := range edgeTicks() {
				x, y := impl.SumTicks([]int{a, b, c}), impl.SumTicks([]int{c, b, a})
				if x != y || x != impl.AddTick(impl.AddTick(a, b), c) {
					t.Errorf("SumTicks of %d, %d, %d: %d, in the other order %d", a, b, c, x, y)
				}
			}
		}
	}
}

func TestSince(t *testing.T) {
	for _, c := range []struct{ from, now, want int }{
		{5, 9, 4},
		{9, 5, 0},
		{7, 7, 0},
		{8, 7, 0},
		{7, 8, 1},
		{0, 0, 0},
		{0, top, top},
		{top, 0, 0},
		{top, top, 0},
		{-1, 5, -1},
		{5, -1, -1},
		{-1, -1, -1},
		{top + 1, 5, -1},
		{5, top + 1, -1},
		{top + 1, top + 1, -1},
		{math.MinInt, math.MaxInt, -1},
		{math.MaxInt, math.MinInt, -1},
		{0, math.MinInt, -1},
	} {
		if got := impl.Since(c.from, c.now); got != c.want {
			t.Errorf("Since(%d, %d) = %d, want %d", c.from, c.now, got, c.want)
		}
	}
}

func TestDueAt(t *testing.T) {
	for _, c := range []struct {
		from, after, now int
		want             bool
	}{
		{5, 4, 8, false},
		{5, 4, 9, true},
		{5, 4, 10, true},
		{5, 1, 5, false},
		{5, 1, 6, true},
		{0, top, top - 1, false},
		{0, top, top, true},
		// What would be due behind the last tick is due at it.
		{top, 1, top, true},
		{top, top, top, true},
		{top - 1, 5, top - 1, false},
		// After 0 nothing is ever due.
		{5, 0, 4, false},
		{5, 0, 5, false},
		{5, 0, 9, false},
		{0, 0, 0, false},
		{0, 0, top, false},
		{top, 0, top, false},
		{5, -1, 9, false},
		{5, -5, 9, false},
		{-1, 4, 9, false},
		{5, 4, -1, false},
		{top + 1, 4, 9, false},
		{5, top + 1, top, false},
		{5, 4, top + 1, false},
		{5, math.MinInt, 9, false},
		{5, math.MaxInt, top, false},
		{5, 4, math.MaxInt, false},
		{math.MinInt, 4, 9, false},
	} {
		if got := impl.DueAt(c.from, c.after, c.now); got != c.want {
			t.Errorf("DueAt(%d, %d, %d) = %v, want %v", c.from, c.after, c.now, got, c.want)
		}
	}
}

func TestSoonestOf(t *testing.T) {
	for _, c := range []struct {
		list []int
		want int
	}{
		{nil, -1},
		{[]int{}, -1},
		{[]int{7, 3, 9}, 3},
		{[]int{3, 7, 9}, 3},
		{[]int{9, 7, 3}, 3},
		{[]int{4, 4}, 4},
		{[]int{0}, 0},
		{[]int{5, 0}, 0},
		{[]int{0, 5}, 0},
		{[]int{top}, top},
		{[]int{top + 1}, -1},
		{[]int{-1, top}, top},
		{[]int{7, -1, 3}, 3},
		{[]int{-1, 7, 3, -5}, 3},
		{[]int{top + 1, 8}, 8},
		{noTicks(), -1},
	} {
		if got := impl.SoonestOf(c.list); got != c.want {
			t.Errorf("SoonestOf(%v) = %d, want %d", c.list, got, c.want)
		}
	}
}

func TestSumTicks(t *testing.T) {
	for _, c := range []struct {
		list []int
		want int
	}{
		{nil, 0},
		{[]int{}, 0},
		{[]int{0, 0}, 0},
		{[]int{1, 2, 3}, 6},
		{[]int{top}, top},
		{[]int{top - 1, 1}, top},
		{[]int{top, top, top}, top},
		{[]int{-1}, -1},
		{[]int{5, -1}, -1},
		{[]int{-1, 5}, -1},
		{[]int{5, -1, 5}, -1},
		{[]int{top, -1}, -1},
		{[]int{top + 1}, -1},
		{[]int{top, top + 1}, -1},
		{[]int{0, math.MinInt}, -1},
		{[]int{top, math.MaxInt}, -1},
	} {
		if got := impl.SumTicks(c.list); got != c.want {
			t.Errorf("SumTicks(%v) = %d, want %d", c.list, got, c.want)
		}
	}
}

func TestListsOfMaxListAndOneMore(t *testing.T) {
	full := slices.Repeat([]int{2}, impl.MaxList)
	if soonest, sum := impl.SoonestOf(full), impl.SumTicks(full); soonest != 2 || sum != 2*impl.MaxList {
		t.Errorf("of MaxList: soonest %d, sum %d", soonest, sum)
	}
	long := append(full, 2)
	if soonest, sum := impl.SoonestOf(long), impl.SumTicks(long); soonest != -1 || sum != -1 {
		t.Errorf("of one more: soonest %d, sum %d", soonest, sum)
	}
	// Those that are no ticks are left out of the least, not out of the length.
	bad := slices.Repeat([]int{-1}, impl.MaxList)
	bad[0] = 4
	if got := impl.SoonestOf(bad); got != 4 {
		t.Errorf("one tick among MaxList: %d", got)
	}
	if got := impl.SoonestOf(append(bad, -1)); got != -1 {
		t.Errorf("one tick among one more: %d", got)
	}
	if got := impl.SumTicks(slices.Repeat([]int{top}, impl.MaxList)); got != top {
		t.Errorf("MaxList times the greatest: %d", got)
	}
}

func TestListsAreNotWrittenInto(t *testing.T) {
	list := []int{7, -1, 3, top + 1, 0}
	was := slices.Clone(list)
	impl.SoonestOf(list)
	impl.SumTicks(list)
	if !slices.Equal(list, was) {
		t.Errorf("%v is now %v", was, list)
	}
}

func TestTickText(t *testing.T) {
	for _, c := range []struct {
		t    int
		want string
	}{
		{0, "0.000"},
		{7, "0.007"},
		{10, "0.010"},
		{34, "0.034"},
		{100, "0.100"},
		{999, "0.999"},
		{1000, "1.000"},
		{1001, "1.001"},
		{12034, "12.034"},
		{123456789, "123456.789"},
		{top - 1, "999999.999"},
		{top, "1000000.000"},
		{top + 1, ""},
		{-1, ""},
		{-1000, ""},
		{math.MaxInt, ""},
		{math.MinInt, ""},
	} {
		if got := impl.TickText(c.t); got != c.want {
			t.Errorf("TickText(%d) = %q, want %q", c.t, got, c.want)
		}
	}
}

func TestParseTickRefuses(t *testing.T) {
	for _, text := range []string{
		"", ".", "0", "7", "12034", "0.", ".000", ".007", "12.", "12.3", "12.34", "12.0340", "12.034.", ".12.034",
		"012.034", "00.000", "00.007", "-0.000", "-0.007", "-1.000", "-", "+0.007", "+.007", "0.+07", "0.-07", "0.-7",
		" 12.034", "12.034 ", "12. 34", "12 .034", "12,034", "12..034", "1.2.034", "1.234.567", "12.034\n", "12.034\x00",
		"1_2.034", "0x1.000", "1e3.000", "12.03a", "a.000", "\u0661.000", "\xff.000",
		"1000000.001", "1000001.000", "10000000.000", "9223372036854775.807", "9223372036854775.808",
		"-9223372036854775.808", "18446744073709551.616", "18446744073709563.650", strings.Repeat("9", 500) + ".000",
		strings.Repeat("0", 500) + ".000",
	} {
		if got, ok := impl.ParseTick(text); ok || got != 0 {
			t.Errorf("ParseTick(%q) = %d, %v", text, got, ok)
		}
	}
}

func readsBack(t *testing.T, x int) {
	t.Helper()
	text := impl.TickText(x)
	if got, ok := impl.ParseTick(text); !ok || got != x {
		t.Errorf("ParseTick(%q) = %d, %v, want %d", text, got, ok, x)
	}
}

func TestTextsAreReadAsTheyWereWritten(t *testing.T) {
	for x := 0; x <= 20000; x++ {
		readsBack(t, x)
		readsBack(t, top-x)
	}
	for x := 0; x <= top; x += 99991 {
		readsBack(t, x)
	}
	for _, x := range edgeTicks() {
		readsBack(t, x)
	}
}

// shortTexts are the texts of all ticks that have at most 6 bytes, written by the document's words.
func shortTexts() map[string]int {
	texts := map[string]int{}
	for x := 0; x <= 99999; x++ {
		rest := strconv.Itoa(x % 1000)
		texts[strconv.Itoa(x/1000)+"."+strings.Repeat("0", 3-len(rest))+rest] = x
	}
	return texts
}

func TestEveryShortTextIsReadOrRefused(t *testing.T) {
	known := shortTexts()
	texts := []string{""}
	for range 6 {
		longer := []string{}
		for _, text := range texts {
			for _, b := range []string{"0", "1", "9", ".", "-", "+"} {
				longer = append(longer, text+b)
			}
		}
		for _, text := range longer {
			want, is := known[text]
			if got, ok := impl.ParseTick(text); got != want || ok != is {
				t.Fatalf("ParseTick(%q) = %d, %v, want %d, %v", text, got, ok, want, is)
			}
		}
		texts = longer
	}
}
