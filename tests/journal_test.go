package tests

import (
	"bytes"
	"math"
	"math/rand"
	"slices"
	"strconv"
	"testing"

	"loop.example/g00734/impl"
)

func journalCopy(j impl.Journal) impl.Journal {
	return impl.Journal{Snap: slices.Clone(j.Snap), Tail: slices.Clone(j.Tail), Safe: j.Safe}
}

func sameJournals(a, b impl.Journal) bool {
	return bytes.Equal(a.Snap, b.Snap) && bytes.Equal(a.Tail, b.Tail) && a.Safe == b.Safe
}

func sameRecords(a, b []impl.Record) bool { return slices.EqualFunc(a, b, sameAs) }

// written is the journal to whose tail the list was appended, the first synced of them synced.
func written(t *testing.T, list []impl.Record, synced int) impl.Journal {
	t.Helper()
	j := impl.Journal{}
	for i, r := range list {
		if i == synced {
			j, _ = impl.SyncTail(j)
		}
		next, ok := impl.AppendRecord(j, r)
		if !ok {
			t.Fatalf("AppendRecord of %v, number %d: refused", r, i)
		}
		j = next
	}
	if synced >= len(list) {
		j, _ = impl.SyncTail(j)
	}
	return j
}

// fewRecords have frames of 4 to 76 bytes.
func fewRecords() []impl.Record {
	return []impl.Record{
		{Kind: 1, Nums: []int{5}},
		{Kind: 2},
		{Kind: 99, Nums: manyNums(12, most)},
		{Kind: 4, Nums: []int{300, 0, most}},
		{},
		{Kind: 7, Nums: []int{0, 128, 16384}},
	}
}

func goodJournals() map[string]impl.Journal {
	frames := joined(fewRecords())
	return map[string]impl.Journal{
		"empty":               {},
		"empty, not nil":      {Snap: []byte{}, Tail: []byte{}},
		"all synced":          {Tail: frames, Safe: len(frames)},
		"nothing synced":      {Tail: frames},
		"synced in a frame":   {Tail: frames, Safe: 7},
		"both files":          {Snap: frames, Tail: frames[:9], Safe: 5},
		"a torn tail":         {Snap: frames, Tail: frames[:20], Safe: 20},
		"a bent tail":         {Snap: frames, Tail: append(slices.Clone(frames), 255, 255), Safe: len(frames)},
		"a bent tail, all":    {Tail: []byte{100}, Safe: 1},
		"a torn snap":         {Snap: frames[:7], Tail: frames, Safe: 9},
		"a bent snap":         {Snap: []byte{100}},
		"Snap just so long":   {Snap: make([]byte, impl.MaxFile), Tail: frames, Safe: 3},
		"Tail just so long":   {Tail: make([]byte, impl.MaxFile), Safe: impl.MaxFile},
		"both just so long":   {Snap: make([]byte, impl.MaxFile), Tail: make([]byte, impl.MaxFile)},
		"a frame behind bent": {Tail: slices.Concat(frames[:5], []byte{100}, frames[:9]), Safe: 10},
	}
}

func badJournals() map[string]impl.Journal {
	frames := joined(fewRecords())
	return map[string]impl.Journal{
		"Safe below 0":              {Tail: frames, Safe: -1},
		"Safe below 0, empty":       {Safe: -1},
		"Safe far below 0":          {Tail: frames, Safe: math.MinInt},
		"Safe beyond Tail":          {Snap: frames, Tail: frames, Safe: len(frames) + 1},
		"Safe beyond an empty Tail": {Snap: frames, Safe: 1},
		"Safe far beyond":           {Tail: frames, Safe: math.MaxInt},
		"Snap a byte too long":      {Snap: make([]byte, impl.MaxFile+1), Tail: frames, Safe: 5},
		"Tail a byte too long":      {Snap: frames, Tail: make([]byte, impl.MaxFile+1), Safe: 5},
		"Tail too long and Safe":    {Tail: make([]byte, impl.MaxFile+1), Safe: impl.MaxFile + 1},
		"both too long":             {Snap: make([]byte, 9000), Tail: make([]byte, 9000)},
	}
}

func TestJournalLimits(t *testing.T) {
	if impl.MaxFile != 3000 {
		t.Errorf("MaxFile %d", impl.MaxFile)
	}
}

func TestJournalOk(t *testing.T) {
	for name, j := range goodJournals() {
		if !impl.JournalOk(j) {
			t.Errorf("%s: not JournalOk", name)
		}
	}
	for name, j := range badJournals() {
		if impl.JournalOk(j) {
			t.Errorf("%s: JournalOk", name)
		}
	}
}

func TestJournalsThatAreRefused(t *testing.T) {
	good := impl.Record{Kind: 1, Nums: []int{5}}
	for name, j := range badJournals() {
		if got, ok := impl.AppendRecord(j, good); ok || !sameJournals(got, j) {
			t.Errorf("%s: AppendRecord = %v, %v", name, got, ok)
		}
		if got, ok := impl.SyncTail(j); ok || !sameJournals(got, j) {
			t.Errorf("%s: SyncTail = %v, %v", name, got, ok)
		}
		for _, keep := range []int{-1, 0, 3, 9000} {
			if got, ok := impl.CrashTail(j, keep); ok || !sameJournals(got, j) {
				t.Errorf("%s: CrashTail of %d = %v, %v", name, keep, got, ok)
			}
		}
		if list, ok := impl.ReadJournal(j); ok || len(list) != 0 {
			t.Errorf("%s: ReadJournal = %v, %v", name, list, ok)
		}
		if got, lost := impl.MendTail(j); lost != -1 || !sameJournals(got, j) {
			t.Errorf("%s: MendTail = %v, %d", name, got, lost)
		}
		for _, list := range [][]impl.Record{nil, {good}} {
			if got, ok := impl.CompactTo(j, list); ok || !sameJournals(got, j) {
				t.Errorf("%s: CompactTo %v = %v, %v", name, list, got, ok)
			}
		}
		if room, text := impl.RoomLeft(j), impl.JournalText(j); room != -1 || text != "" {
			t.Errorf("%s: RoomLeft %d, JournalText %q", name, room, text)
		}
	}
}

func TestAppendRecord(t *testing.T) {
	for name, j := range goodJournals() {
		for _, r := range goodRecords() {
			frame := frameBytes(r)
			want, fits := j, len(j.Tail)+len(frame) <= impl.MaxFile
			if fits {
				want = impl.Journal{Snap: j.Snap, Tail: slices.Concat(j.Tail, frame), Safe: j.Safe}
			}
			if got, ok := impl.AppendRecord(j, r); ok != fits || !sameJournals(got, want) {
				t.Errorf("%s: AppendRecord of %v = %v, %v", name, r, got, ok)
			}
		}
		for bad, r := range badRecords() {
			if got, ok := impl.AppendRecord(j, r); ok || !sameJournals(got, j) {
				t.Errorf("%s: AppendRecord of %s = %v, %v", name, bad, got, ok)
			}
		}
	}
}

func TestAppendRecordUpToAFullDisk(t *testing.T) {
	for _, r := range fewRecords() {
		size := len(frameBytes(r))
		for _, over := range []int{0, 1} {
			j := impl.Journal{Snap: joined(fewRecords()), Tail: make([]byte, impl.MaxFile-size+over), Safe: 7}
			got, ok := impl.AppendRecord(j, r)
			if over == 0 && (!ok || len(got.Tail) != impl.MaxFile || got.Safe != 7 || impl.RoomLeft(got) != 0 || !impl.JournalOk(got)) {
				t.Errorf("%v just fits: %v, %d bytes, Safe %d", r, ok, len(got.Tail), got.Safe)
			}
			if over == 1 && (ok || !sameJournals(got, j)) {
				t.Errorf("%v is a byte too long: %v, %d bytes", r, ok, len(got.Tail))
			}
		}
	}
}

// A disk that is full takes what is shorter, and what stands on it is read.
func TestFullDiskKeepsWhatItHas(t *testing.T) {
	long, short := impl.Record{Kind: 99, Nums: manyNums(12, most)}, impl.Record{Kind: 3}
	j, count := impl.Journal{}, 0
	for {
		next, ok := impl.AppendRecord(j, long)
		if !ok {
			break
		}
		j, count = next, count+1
	}
	if count != 39 || impl.RoomLeft(j) != 36 {
		t.Errorf("%d of the longest, room for %d", count, impl.RoomLeft(j))
	}
	for range 9 {
		next, ok := impl.AppendRecord(j, short)
		if !ok {
			t.Errorf("refused with room for %d", impl.RoomLeft(j))
		}
		j = next
	}
	full, ok := impl.AppendRecord(j, short)
	if list, read := impl.ReadJournal(full); ok || !read || len(list) != 48 || len(full.Tail) != impl.MaxFile {
		t.Errorf("full: %v, %v, %d records, %d bytes", ok, read, len(list), len(full.Tail))
	}
	if emptied, ok := impl.CompactTo(full, []impl.Record{short}); !ok || impl.RoomLeft(emptied) != impl.MaxFile {
		t.Errorf("compacted: %v, room for %d", ok, impl.RoomLeft(emptied))
	}
}

func TestSyncTail(t *testing.T) {
	for name, j := range goodJournals() {
		want := impl.Journal{Snap: j.Snap, Tail: j.Tail, Safe: len(j.Tail)}
		got, ok := impl.SyncTail(j)
		if !ok || !sameJournals(got, want) {
			t.Errorf("%s: SyncTail = %v, %v", name, got, ok)
		}
		if again, ok := impl.SyncTail(got); !ok || !sameJournals(again, got) {
			t.Errorf("%s: SyncTail again = %v, %v", name, again, ok)
		}
	}
}

func TestCrashTail(t *testing.T) {
	for name, j := range goodJournals() {
		loose := len(j.Tail) - j.Safe
		keeps := []int{math.MinInt, math.MinInt + 1, -9000, -2, -1, 0, 1, 2, 5, loose - 1, loose, loose + 1, len(j.Tail), impl.MaxFile, 9000, math.MaxInt - 1, math.MaxInt}
		for _, keep := range keeps {
			left := j.Safe
			for left < len(j.Tail) && left-j.Safe < keep {
				left++
			}
			want := impl.Journal{Snap: j.Snap, Tail: j.Tail[:left], Safe: left}
			if got, ok := impl.CrashTail(j, keep); !ok || !sameJournals(got, want) {
				t.Errorf("%s: CrashTail of %d = %v, %v", name, keep, got, ok)
			}
		}
	}
}

func TestReadJournal(t *testing.T) {
	for name, j := range goodJournals() {
		want, _, behind := scanBy(j.Snap)
		tail, _, _ := scanBy(j.Tail)
		want = append(want, tail...)
		if behind != impl.TailNone {
			want = nil
		}
		if list, ok := impl.ReadJournal(j); ok != (behind == impl.TailNone) || !sameRecords(list, want) {
			t.Errorf("%s: ReadJournal = %v, %v", name, list, ok)
		}
	}
}

func TestReadJournalOfBothFiles(t *testing.T) {
	snap, tail := fewRecords()[:2], fewRecords()[2:]
	list, ok := impl.ReadJournal(impl.Journal{Snap: joined(snap), Tail: joined(tail)})
	if !ok || !sameRecords(list, fewRecords()) {
		t.Errorf("%v, %v", list, ok)
	}
	// One frame over both files is none.
	frame := frameBytes(fewRecords()[2])
	if list, ok := impl.ReadJournal(impl.Journal{Snap: frame[:9], Tail: frame[9:]}); ok || len(list) != 0 {
		t.Errorf("over both files: %v, %v", list, ok)
	}
}

func TestReadJournalOfASnapWithATail(t *testing.T) {
	frames := joined(fewRecords())
	ends := frameEnds(fewRecords())
	for cut := range len(frames) + 1 {
		j := impl.Journal{Snap: frames[:cut], Tail: frames}
		whole := slices.Contains(ends, cut)
		list, ok := impl.ReadJournal(j)
		if ok != whole || whole && len(list) != slices.Index(ends, cut)+len(fewRecords()) || !whole && len(list) != 0 {
			t.Errorf("Snap of %d bytes: %v, %v", cut, list, ok)
		}
		bent := impl.Journal{Snap: append(slices.Clone(frames[:cut]), 255), Tail: frames}
		if list, ok := impl.ReadJournal(bent); ok || len(list) != 0 {
			t.Errorf("Snap of %d bytes, bent: %v, %v", cut, list, ok)
		}
	}
}

// frameEnds are the places at which a whole number of frames ends.
func frameEnds(list []impl.Record) []int {
	ends := []int{0}
	for i := range list {
		ends = append(ends, len(joined(list[:i+1])))
	}
	return ends
}

func TestMendTail(t *testing.T) {
	for name, j := range goodJournals() {
		_, size, _ := scanBy(j.Tail)
		want := impl.Journal{Snap: j.Snap, Tail: j.Tail[:size], Safe: size}
		got, lost := impl.MendTail(j)
		if lost != len(j.Tail)-size || !sameJournals(got, want) {
			t.Errorf("%s: MendTail = %v, %d", name, got, lost)
		}
		if again, lost := impl.MendTail(got); lost != 0 || !sameJournals(again, got) {
			t.Errorf("%s: MendTail again = %v, %d", name, again, lost)
		}
	}
}

func TestMendTailThatIsTornOrBent(t *testing.T) {
	frames := joined(fewRecords())
	ends := frameEnds(fewRecords())
	for cut := range len(frames) + 1 {
		end := 0
		for _, e := range ends {
			if e <= cut {
				end = e
			}
		}
		for _, safe := range []int{0, cut / 2, cut} {
			got, lost := impl.MendTail(impl.Journal{Tail: frames[:cut], Safe: safe})
			if lost != cut-end || got.Safe != end || !bytes.Equal(got.Tail, frames[:end]) {
				t.Errorf("torn at %d, Safe %d: %d lost, Safe %d, %v", cut, safe, lost, got.Safe, got.Tail)
			}
		}
	}
	// A bit that turned bends its frame, and what is behind that is not found any more.
	for at := range frames {
		bent := slices.Clone(frames)
		bent[at] ^= 1
		end := 0
		for _, e := range ends {
			if e <= at {
				end = e
			}
		}
		got, lost := impl.MendTail(impl.Journal{Tail: bent, Safe: len(bent)})
		if lost != len(bent)-end || got.Safe != end || !bytes.Equal(got.Tail, bent[:end]) {
			t.Errorf("bent at %d: %d lost, Safe %d, %v", at, lost, got.Safe, got.Tail)
		}
	}
}

func TestCompactTo(t *testing.T) {
	lists := [][]impl.Record{nil, {}, {{}}, fewRecords(), goodRecords()}
	for name, j := range goodJournals() {
		for _, list := range lists {
			got, ok := impl.CompactTo(j, list)
			if !ok || !sameJournals(got, impl.Journal{Snap: joined(list)}) {
				t.Errorf("%s: CompactTo %v = %v, %v", name, list, got, ok)
			}
			if read, ok := impl.ReadJournal(got); !ok || !sameRecords(read, list) {
				t.Errorf("%s: read again %v, %v, want %v", name, read, ok, list)
			}
		}
		for bad, r := range badRecords() {
			for _, list := range [][]impl.Record{{r}, append(fewRecords(), r), append([]impl.Record{r}, fewRecords()...)} {
				if got, ok := impl.CompactTo(j, list); ok || !sameJournals(got, j) {
					t.Errorf("%s: CompactTo with %s = %v, %v", name, bad, got, ok)
				}
			}
		}
	}
}

func TestCompactToUpToAFullSnap(t *testing.T) {
	j := impl.Journal{Snap: []byte{100}, Tail: joined(fewRecords()), Safe: 5}
	// 750 frames of 4 bytes, and 600 of 5.
	for r, count := range map[int]int{0: 750, 1: 600} {
		list := []impl.Record{}
		for range count {
			list = append(list, impl.Record{Kind: r, Nums: manyNums(r, 9)})
		}
		got, ok := impl.CompactTo(j, list)
		if !ok || len(got.Snap) != impl.MaxFile || len(got.Tail) != 0 || got.Safe != 0 || !impl.JournalOk(got) {
			t.Errorf("just fits: %v, %d bytes", ok, len(got.Snap))
		}
		if got, ok := impl.CompactTo(j, append(list, impl.Record{})); ok || !sameJournals(got, j) {
			t.Errorf("a record too many: %v, %v", got, ok)
		}
		// The last is a byte longer.
		list[count-1].Nums = append(list[count-1].Nums, 1)
		if got, ok := impl.CompactTo(j, list); ok || !sameJournals(got, j) {
			t.Errorf("a byte too many: %v, %v", got, ok)
		}
	}
	// What is too long at its first must not be passed over for what fits behind it.
	list := append(manyRecords(39, most), manyRecords(1, 0)...)
	if _, ok := impl.CompactTo(j, append(list, manyRecords(1, most)...)); ok {
		t.Error("a list of more than MaxFile bytes is taken")
	}
	between := slices.Concat(manyRecords(40, most), manyRecords(1, 0))
	if got, ok := impl.CompactTo(j, between); ok || !sameJournals(got, j) {
		t.Errorf("the one that is too long stands ahead of one that fits: %v, %v", got, ok)
	}
}

func manyRecords(n int, x int) []impl.Record {
	list := []impl.Record{}
	for range n {
		list = append(list, impl.Record{Kind: 5, Nums: manyNums(12, x)})
	}
	return list
}

func TestRoomLeft(t *testing.T) {
	for name, j := range goodJournals() {
		if room := impl.RoomLeft(j); room != 3000-len(j.Tail) {
			t.Errorf("%s: RoomLeft %d", name, room)
		}
	}
}

func TestJournalText(t *testing.T) {
	if text := impl.JournalText(impl.Journal{}); text != "snap 0 tail 0 safe 0" {
		t.Errorf("of an empty journal: %q", text)
	}
	for name, j := range goodJournals() {
		snap, _, _ := scanBy(j.Snap)
		tail, _, _ := scanBy(j.Tail)
		want := "snap " + strconv.Itoa(len(snap)) + " tail " + strconv.Itoa(len(tail)) + " safe " + strconv.Itoa(j.Safe)
		if text := impl.JournalText(j); text != want {
			t.Errorf("%s: JournalText %q, want %q", name, text, want)
		}
	}
	j := impl.Journal{Snap: append(joined(fewRecords()[:3]), 255), Tail: joined(fewRecords())[:12], Safe: 11}
	if text := impl.JournalText(j); text != "snap 3 tail 2 safe 11" {
		t.Errorf("with a tail behind each: %q", text)
	}
}

// checkCrash looks at what is read behind a crash, once as it is and once mended.
func checkCrash(t *testing.T, j impl.Journal, list []impl.Record, ends []int, keep int) {
	t.Helper()
	want := 0
	for i, end := range ends {
		if end <= j.Safe+max(keep, 0) {
			want = i
		}
	}
	crashed, ok := impl.CrashTail(j, keep)
	read, ok2 := impl.ReadJournal(crashed)
	if !ok || !ok2 || !sameRecords(read, list[:want]) {
		t.Errorf("keep %d: %d records, want %d of %d", keep, len(read), want, len(list))
	}
	mended, lost := impl.MendTail(crashed)
	read, ok = impl.ReadJournal(mended)
	if !ok || !sameRecords(read, list[:want]) || lost != len(crashed.Tail)-ends[want] {
		t.Errorf("keep %d, mended: %d records, %d bytes lost, want %d", keep, len(read), lost, want)
	}
	// A second crash takes nothing more, and what is written behind it is read.
	mended, _ = impl.CrashTail(mended, -1)
	more := impl.Record{Kind: 42, Nums: []int{most, keep & 255}}
	mended, ok = impl.AppendRecord(mended, more)
	read, ok2 = impl.ReadJournal(mended)
	if !ok || !ok2 || !sameRecords(read, append(slices.Clone(list[:want]), more)) {
		t.Errorf("keep %d, written on: %d records, want %d", keep, len(read), want+1)
	}
}

func TestWhatWasSyncedIsReadBehindAnyCrash(t *testing.T) {
	list := fewRecords()
	ends := frameEnds(list)
	for synced := range len(list) + 1 {
		j := written(t, list, synced)
		if j.Safe != ends[synced] || !bytes.Equal(j.Tail, joined(list)) {
			t.Fatalf("%d synced: Safe %d, Tail %v", synced, j.Safe, j.Tail)
		}
		for keep := -2; keep <= len(j.Tail)+2; keep++ {
			checkCrash(t, j, list, ends, keep)
		}
		checkCrash(t, j, list, ends, math.MinInt)
		checkCrash(t, j, list, ends, impl.MaxFile)
	}
}

// TestJournalByChance goes through many ops and holds, beside the journal, what must be read of it.
func TestJournalByChance(t *testing.T) {
	chance := rand.New(rand.NewSource(4))
	for range 150 {
		j := impl.Journal{}
		snap, tail, safe := []impl.Record{}, []impl.Record{}, 0
		for range 60 {
			switch chance.Intn(8) {
			case 0:
				j, _ = impl.SyncTail(j)
				safe = len(tail)
			case 1:
				was := len(tail)
				j, _ = impl.CrashTail(j, chance.Intn(60)-10)
				j, _ = impl.MendTail(j)
				read, ok := impl.ReadJournal(j)
				left := len(read) - len(snap)
				if !ok || left < safe || left > was {
					t.Fatalf("%d records left of %d, %d of them synced; %v", left, was, safe, ok)
				}
				tail, safe = tail[:left], left
			case 2:
				all := slices.Concat(snap, tail)
				next, ok := impl.CompactTo(j, all)
				if ok != (len(joined(all)) <= impl.MaxFile) {
					t.Fatalf("CompactTo of %d bytes: %v", len(joined(all)), ok)
				}
				if ok {
					j, snap, tail, safe = next, all, nil, 0
				}
			default:
				r := chanceRecord(chance)
				next, ok := impl.AppendRecord(j, r)
				if ok != (len(joined(tail))+len(frameBytes(r)) <= impl.MaxFile) {
					t.Fatalf("AppendRecord behind %d bytes: %v", len(j.Tail), ok)
				}
				if ok {
					j, tail = next, append(slices.Clone(tail), r)
				}
			}
			want := impl.Journal{Snap: joined(snap), Tail: joined(tail), Safe: len(joined(tail[:safe]))}
			if read, ok := impl.ReadJournal(j); !ok || !sameJournals(j, want) || !sameRecords(read, slices.Concat(snap, tail)) {
				t.Fatalf("%v, read %v, %v; want %v", j, read, ok, want)
			}
		}
	}
}

// roomyJournal has room behind both files, so that what is appended in place shows in its pieces of memory.
func roomyJournal() (impl.Journal, [][]byte) {
	pieces := [][]byte{}
	for range 2 {
		piece := append(joined(fewRecords()), bytes.Repeat([]byte{77}, 90)...)
		pieces = append(pieces, piece)
	}
	n := len(pieces[0]) - 90
	return impl.Journal{Snap: pieces[0][:n], Tail: pieces[1][:n-2], Safe: 9}, pieces
}

// journalAnswers are the journals that are answered for one, taken and refused.
func journalAnswers(j impl.Journal) []impl.Journal {
	list := []impl.Journal{}
	add := func(j impl.Journal) { list = append(list, j) }
	for _, r := range []impl.Record{{Kind: 1}, {Kind: 100}} {
		a, _ := impl.AppendRecord(j, r)
		b, _ := impl.CompactTo(j, []impl.Record{r})
		add(a)
		add(b)
	}
	c, _ := impl.SyncTail(j)
	add(c)
	for _, keep := range []int{-1, 0, 7, 9000} {
		d, _ := impl.CrashTail(j, keep)
		add(d)
	}
	e, _ := impl.MendTail(j)
	add(e)
	return list
}

func scribble(b []byte) {
	whole := b[:cap(b)]
	for i := range whole {
		whole[i] ^= 255
	}
}

func TestJournalAnswersAreNewMemory(t *testing.T) {
	for _, safe := range []int{9, -1} {
		j, pieces := roomyJournal()
		j.Safe = safe
		_, untouched := roomyJournal()
		answers := journalAnswers(j)
		kept := []impl.Journal{}
		for _, a := range answers {
			kept = append(kept, journalCopy(a))
		}
		impl.ReadJournal(j)
		impl.JournalText(j)
		impl.RoomLeft(j)
		for i := range pieces {
			if !bytes.Equal(pieces[i], untouched[i]) {
				t.Errorf("Safe %d: piece %d was written into", safe, i)
			}
		}
		for _, piece := range pieces {
			scribble(piece)
		}
		for i, a := range answers {
			if !sameJournals(a, kept[i]) {
				t.Errorf("Safe %d: answer %d shares memory with its argument", safe, i)
			}
			scribble(a.Snap)
			if !bytes.Equal(a.Tail, kept[i].Tail) {
				t.Errorf("Safe %d: the files of answer %d share memory", safe, i)
			}
			for k := i + 1; k < len(answers); k++ {
				if !sameJournals(answers[k], kept[k]) {
					t.Errorf("Safe %d: answers %d and %d share memory", safe, i, k)
				}
			}
		}
	}
}

// Two files that are one piece of memory come back as two.
func TestJournalOfOnePieceOfMemory(t *testing.T) {
	frames := joined(fewRecords())
	for _, safe := range []int{5, -1} {
		j := impl.Journal{Snap: frames, Tail: frames[:len(frames)-3], Safe: safe}
		for i, a := range journalAnswers(j) {
			was := slices.Clone(a.Tail)
			scribble(a.Snap)
			if !bytes.Equal(a.Tail, was) {
				t.Errorf("Safe %d: the files of answer %d share memory", safe, i)
			}
			scribble(a.Snap)
		}
	}
}

func TestReadJournalIsNewMemory(t *testing.T) {
	j, pieces := roomyJournal()
	list, _ := impl.ReadJournal(j)
	want := append(fewRecords(), fewRecords()[:5]...)
	for _, piece := range pieces {
		scribble(piece)
	}
	if !sameRecords(list, want) {
		t.Errorf("shares memory with the journal: %v", list)
	}
	for i := range list {
		for k := range list[i].Nums[:cap(list[i].Nums)] {
			list[i].Nums[:cap(list[i].Nums)][k] = -1
		}
		for k := i + 1; k < len(list); k++ {
			if !sameAs(list[k], want[k]) {
				t.Errorf("records %d and %d share memory", i, k)
			}
		}
	}
	nums := []int{7, 8, 9}
	compact, _ := impl.CompactTo(impl.Journal{}, []impl.Record{{Kind: 1, Nums: nums[:2]}})
	if !slices.Equal(nums, []int{7, 8, 9}) || !bytes.Equal(compact.Snap, frameBytes(impl.Record{Kind: 1, Nums: []int{7, 8}})) {
		t.Errorf("CompactTo wrote into its list, or wrote %v", compact.Snap)
	}
}
