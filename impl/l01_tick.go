package impl

import (
	"strconv"
	"strings"
)

// noTick is what is answered where there is no tick; the ticks lie right above it.
const (
	noTick = iota - 1
	firstTick
	MaxTick = 1000000000
	MaxList = 300
)

type tick int

func (t tick) ok() bool { return t >= firstTick && t <= MaxTick }

// plus looks at both before it adds them, so that the sum itself cannot turn over.
func (t tick) plus(d int) tick {
	if !t.ok() || d < -MaxTick || d > MaxTick {
		return noTick
	}
	return min(max(t+tick(d), firstTick), MaxTick)
}

func (t tick) since(from tick) tick {
	if !t.ok() || !from.ok() {
		return noTick
	}
	return max(t-from, firstTick)
}

func (t tick) text() string {
	if !t.ok() {
		return ""
	}
	whole, rest := int(t)/1000, int(t)%1000
	// The 1 of the thousand keeps the noughts ahead of the rest and is cut off again.
	return strconv.Itoa(whole) + "." + strconv.Itoa(1000 + rest)[1:]
}

func addAll(list ...int) tick {
	sum := tick(firstTick)
	for _, d := range list {
		// A number below 0 may be added, but it is no tick and so has no place in a sum.
		if !tick(d).ok() {
			return noTick
		}
		sum = sum.plus(d)
	}
	return sum
}

func TickOk(t int) bool { return tick(t).ok() }

func AddTick(t int, d int) int { return int(tick(t).plus(d)) }

func Since(from int, now int) int { return int(tick(now).since(tick(from))) }

// DueAt takes an after of 0 as a deadline that is turned off.
func DueAt(from int, after int, now int) bool {
	if !TickOk(from) || !TickOk(after) || !TickOk(now) || after == 0 {
		return false
	}
	return AddTick(from, after) <= now
}

func SoonestOf(list []int) int {
	soonest := noTick
	if len(list) > MaxList {
		return soonest
	}
	for _, t := range list {
		if TickOk(t) && (soonest == noTick || t < soonest) {
			soonest = t
		}
	}
	return soonest
}

func SumTicks(list []int) int {
	if len(list) > MaxList {
		return noTick
	}
	return int(addAll(list...))
}

func TickText(t int) string { return tick(t).text() }

// ParseTick writes what it read once more: only the very same text counts.
func ParseTick(text string) (int, bool) {
	whole, rest, _ := strings.Cut(text, ".")
	t, err := strconv.Atoi(whole + rest)
	if err != nil || TickText(t) != text {
		return 0, false
	}
	return t, true
}
