package tests

import (
	"bytes"
	"math"
	"slices"
	"strconv"
	"testing"

	"loop.example/g00734/impl"
)

// opRecordBy is the record of an op by the document's words.
func opRecordBy(o impl.Op) impl.Record {
	return impl.Record{Kind: o.Kind, Nums: []int{o.A, o.B, o.C}}
}

func opRecordsBy(ops []impl.Op) []impl.Record {
	list := []impl.Record{}
	for _, o := range ops {
		list = append(list, opRecordBy(o))
	}
	return list
}

func opBytes(ops ...impl.Op) []byte { return joined(opRecordsBy(ops)) }

func allNumbers(o impl.Op) []int { return []int{o.A, o.B, o.C} }

func hasRecordBy(o impl.Op) bool {
	return o.Kind >= 0 && o.Kind <= 2 && slices.Min(allNumbers(o)) >= 0 && slices.Max(allNumbers(o)) <= most
}

// sameInAll asks for more than SameStore: nothing at all may differ.
func sameInAll(a, b impl.Store) bool {
	return a.Spec == b.Spec && a.Rev == b.Rev && a.Count == b.Count && sameJournals(a.Journal, b.Journal) && sameEngines(a.Engine, b.Engine)
}

func storeCopy(t impl.Store) impl.Store {
	t.Journal = journalCopy(t.Journal)
	t.Engine.Fleet = fleetCopy(t.Engine.Fleet)
	return t
}

func wantStore(t *testing.T, name string, got, want impl.Store) {
	t.Helper()
	if !sameInAll(got, want) {
		t.Errorf("%s:\n%v, want\n%v", name, got, want)
	}
}

func synced(b []byte) impl.Journal { return impl.Journal{Tail: b, Safe: len(b)} }

// storeBy is the store of these ops, all of which the engine does, with its engine played and its journal put together here.
func storeBy(t *testing.T, s impl.Spec, rev int, ops []impl.Op) impl.Store {
	t.Helper()
	e, _, codes, ok := impl.PlayEngine(s, rev, ops)
	if !ok || len(codes) > 0 && slices.Max(codes) != impl.OpDone {
		t.Fatalf("%v: %v, %v", ops, codes, ok)
	}
	return impl.Store{Spec: s, Rev: rev, Journal: synced(opBytes(ops...)), Engine: e, Count: len(ops)}
}

// fewOps are a rollout to 2 amid which Replicas are changed; their records have 7 to 9 bytes.
func fewOps() []impl.Op {
	ops := append(riseOps(impl.DefaultSpec()), editOp(2, 0), reportOp(1, 2, 4), reportOp(5, 1, 2), reportOp(6, 1, 2))
	return append(ops, tickOp(3), editOp(300, 6), tickOp(1000))
}

// noOps have no record: the engine would do some of them.
func noOps() []impl.Op {
	list := []impl.Op{}
	for _, kind := range []int{-1, 3, 4, 99, 100, 255, 256, math.MinInt, math.MaxInt} {
		list = append(list, impl.Op{Kind: kind}, impl.Op{Kind: kind, A: 1, B: 1, C: 2})
	}
	for _, x := range noNumbers() {
		for kind := range 3 {
			list = append(list, impl.Op{Kind: kind, A: x, B: 1, C: 2}, impl.Op{Kind: kind, A: 1, B: x, C: 2}, impl.Op{Kind: kind, A: 1, B: 1, C: x})
		}
		list = append(list, impl.Op{Kind: 1, A: 2, C: x}, impl.Op{Kind: 0, C: x}, impl.Op{Kind: 0, B: x})
	}
	return list
}

// refusedOps have a record, but no engine behind some of fewOps does them: those with OpBad, and those with OpIdle.
func refusedOps() (bad []impl.Op, idle []impl.Op) {
	bad = []impl.Op{tickOp(2001), tickOp(most), editOp(0, 0), editOp(1001, 0), editOp(most, 4), editOp(2, 13), editOp(2, most), reportOp(2, 0, 2), reportOp(2, top+1, 2), reportOp(2, 9, 0), reportOp(2, 9, 5), reportOp(99, 0, 0)}
	idle = []impl.Op{reportOp(0, 1, 2), reportOp(99, 1, 4), reportOp(most, top, 1)}
	return bad, idle
}

// lateOps are idle behind all of fewOps, but not ahead of them: one is stale, and one is of a pod that is gone.
func lateOps() []impl.Op { return []impl.Op{reportOp(2, 1, 2), reportOp(1, 9, 2)} }

func TestStoreCodes(t *testing.T) {
	if got := []int{impl.StoreDone, impl.StoreBad, impl.StoreFull}; !slices.Equal(got, []int{0, 1, 2}) {
		t.Errorf("%v", got)
	}
}

func TestNewStore(t *testing.T) {
	for name, s := range goodSpecs() {
		for _, rev := range []int{1, 2, 999, 1000} {
			want := impl.Store{Spec: s, Rev: rev, Engine: impl.Engine{Spec: s, Target: rev, Good: rev, Fleet: impl.Fleet{Next: 1}}}
			got, ok := impl.NewStore(s, rev)
			opened, ok2 := impl.OpenStore(s, rev, impl.Journal{})
			played, codes := impl.PlayStore(s, rev, nil)
			if !ok || !ok2 || len(codes) != 0 {
				t.Errorf("%s, rev %d: %v, %v, %v", name, rev, ok, ok2, codes)
			}
			wantStore(t, name, got, want)
			wantStore(t, name+", opened", opened, want)
			wantStore(t, name+", played", played, want)
		}
	}
}

func wantNoStore(t *testing.T, name string, s impl.Spec, rev int) {
	t.Helper()
	if got, ok := impl.NewStore(s, rev); ok || !sameInAll(got, impl.Store{}) {
		t.Errorf("%s, rev %d: NewStore %v, %v", name, rev, got, ok)
	}
	for _, j := range []impl.Journal{{}, synced(opBytes(fewOps()...)), {Tail: []byte{100}}, {Snap: []byte{100}}, {Safe: 1}} {
		if got, ok := impl.OpenStore(s, rev, j); ok || !sameInAll(got, impl.Store{}) {
			t.Errorf("%s, rev %d: OpenStore of %v = %v, %v", name, rev, j, got, ok)
		}
	}
	for _, ops := range [][]impl.Op{nil, {tickOp(1)}, fewOps(), {{Kind: 9}}} {
		if got, codes := impl.PlayStore(s, rev, ops); len(codes) != 0 || !sameInAll(got, impl.Store{}) {
			t.Errorf("%s, rev %d: PlayStore %v, %v", name, rev, got, codes)
		}
	}
}

func TestNewStoreRefuses(t *testing.T) {
	for name, s := range badSpecs() {
		wantNoStore(t, name, s, 1)
		wantNoStore(t, name, s, 0)
	}
	for _, rev := range []int{0, -1, 1001, math.MinInt, math.MaxInt} {
		wantNoStore(t, "default", impl.DefaultSpec(), rev)
	}
}

func wantOpRecord(t *testing.T, o impl.Op) {
	t.Helper()
	r, ok := impl.OpRecord(o)
	if !ok || !sameAs(r, opRecordBy(o)) || !impl.RecordOk(r) {
		t.Errorf("OpRecord of %v = %v, %v", o, r, ok)
	}
	if back, ok := impl.RecordOp(r); !ok || back != o {
		t.Errorf("RecordOp of %v = %v, %v", r, back, ok)
	}
	read, _ := impl.TakeFrame(opBytes(o), 0)
	if back, ok := impl.RecordOp(read); !ok || back != o {
		t.Errorf("%v from its frame = %v, %v", o, back, ok)
	}
}

func TestOpRecordThereAndBack(t *testing.T) {
	for kind := range 3 {
		wantOpRecord(t, impl.Op{Kind: kind})
		wantOpRecord(t, impl.Op{Kind: kind, A: 1, B: 2, C: 3})
		wantOpRecord(t, impl.Op{Kind: kind, A: most, B: most, C: most})
		for _, x := range edgeNumbers() {
			wantOpRecord(t, impl.Op{Kind: kind, A: x})
			wantOpRecord(t, impl.Op{Kind: kind, B: x})
			wantOpRecord(t, impl.Op{Kind: kind, C: x})
		}
	}
}

func TestOpsWithoutARecord(t *testing.T) {
	st := storeBy(t, impl.DefaultSpec(), 1, fewOps())
	for _, o := range noOps() {
		if r, ok := impl.OpRecord(o); ok || !noRecord(r) {
			t.Errorf("OpRecord of %v = %v, %v", o, r, ok)
		}
		if got, code := impl.StoreOp(st, o); code != impl.StoreBad || !sameInAll(got, st) {
			t.Errorf("StoreOp of %v = %v, %d", o, got, code)
		}
		for _, keep := range []int{-1, 0, 3, 9000} {
			if got, ok := impl.CrashStore(st, o, keep); ok || !sameInAll(got, st) {
				t.Errorf("CrashStore at %v, keep %d = %v, %v", o, keep, got, ok)
			}
		}
	}
}

// strangeRecords are no op's.
func strangeRecords() []impl.Record {
	list := []impl.Record{}
	for kind := range 3 {
		for n := range 13 {
			if n != 3 {
				list = append(list, impl.Record{Kind: kind, Nums: manyNums(n, 1)})
			}
		}
	}
	for _, kind := range []int{3, 4, 7, 98, 99} {
		list = append(list, impl.Record{Kind: kind, Nums: manyNums(3, 1)})
	}
	return list
}

func TestRecordsThatAreNoOps(t *testing.T) {
	list := append(strangeRecords(), impl.Record{Kind: 1, Nums: manyNums(13, 1)})
	for _, kind := range []int{-1, 100, 256, math.MinInt, math.MaxInt} {
		list = append(list, impl.Record{Kind: kind, Nums: manyNums(3, 1)})
	}
	for _, x := range noNumbers() {
		for kind := range 3 {
			list = append(list, impl.Record{Kind: kind, Nums: []int{x, 1, 1}}, impl.Record{Kind: kind, Nums: []int{1, x, 1}}, impl.Record{Kind: kind, Nums: []int{1, 1, x}})
		}
	}
	for _, r := range list {
		if o, ok := impl.RecordOp(r); ok || o != (impl.Op{}) {
			t.Errorf("RecordOp of %v = %v, %v", r, o, ok)
		}
	}
}

func TestStoreOpIsWrittenSyncedAndDone(t *testing.T) {
	for name, s := range goodSpecs() {
		ops := append(riseOps(s), editOp(2, 0), impl.Op{Kind: 0, A: 2000, B: most, C: 7}, impl.Op{Kind: 1, A: 1000, C: most})
		got, _ := impl.NewStore(s, 1)
		for i, o := range ops {
			next, code := impl.StoreOp(got, o)
			if code != impl.StoreDone {
				t.Fatalf("%s: op %d, %v: code %d", name, i, o, code)
			}
			wantStore(t, name, next, storeBy(t, s, 1, ops[:i+1]))
			if impl.SameStore(got, next) {
				t.Errorf("%s: op %d, %v: is the same", name, i, o)
			}
			got = next
		}
		played, codes := impl.PlayStore(s, 1, ops)
		wantStore(t, name+", played", played, got)
		if !slices.Equal(codes, make([]int, len(ops))) {
			t.Errorf("%s: codes %v", name, codes)
		}
	}
}

// What the tail has already stays ahead of what is appended, and all of it is synced.
func TestStoreOpSyncsTheWholeTail(t *testing.T) {
	st := storeBy(t, impl.DefaultSpec(), 1, fewOps())
	for name, j := range goodJournals() {
		st.Journal = j
		got, code := impl.StoreOp(st, tickOp(5))
		want := storeBy(t, impl.DefaultSpec(), 1, append(fewOps(), tickOp(5)))
		want.Journal = synced(slices.Concat(j.Tail, opBytes(tickOp(5))))
		want.Journal.Snap = j.Snap
		if len(want.Journal.Tail) > impl.MaxFile {
			if code != impl.StoreFull || !sameInAll(got, st) {
				t.Errorf("%s: full, %v, %d", name, got, code)
			}
			continue
		}
		wantStore(t, name, got, want)
		if code != impl.StoreDone {
			t.Errorf("%s: code %d", name, code)
		}
	}
}

func wantBad(t *testing.T, name string, st impl.Store, ops []impl.Op) {
	t.Helper()
	for _, o := range ops {
		if got, code := impl.StoreOp(st, o); code != impl.StoreBad || !sameInAll(got, st) {
			t.Errorf("%s: StoreOp of %v = %v, %d", name, o, got, code)
		}
	}
}

func TestOpsThatTheEngineRefuses(t *testing.T) {
	st := storeBy(t, impl.DefaultSpec(), 1, fewOps())
	bad, idle := refusedOps()
	for code, ops := range [][]impl.Op{impl.OpBad: bad, impl.OpIdle: append(lateOps(), idle...)} {
		for _, o := range ops {
			_, _, codes, _ := impl.PlayEngine(st.Spec, 1, append(fewOps(), o))
			if !hasRecordBy(o) || codes[len(codes)-1] != code {
				t.Errorf("%v: the engine says %d", o, codes[len(codes)-1])
			}
		}
	}
	wantBad(t, "bad", st, bad)
	wantBad(t, "idle", st, idle)
	wantBad(t, "late", st, lateOps())
	for _, rev := range []int{1, 1000} {
		fresh, _ := impl.NewStore(st.Spec, rev)
		wantBad(t, "new", fresh, bad)
		wantBad(t, "new", fresh, idle)
	}
	played, codes := impl.PlayStore(st.Spec, 1, slices.Concat(bad, fewOps()[:1], idle, noOps()[:9], fewOps()[1:2]))
	want := slices.Concat(manyNums(len(bad), 1), []int{0}, manyNums(len(idle)+9, 1), []int{0})
	if !slices.Equal(codes, want) {
		t.Errorf("%v", codes)
	}
	wantStore(t, "amid others", played, storeBy(t, st.Spec, 1, fewOps()[:2]))
}

func TestMaxOpsDoneAndOneMore(t *testing.T) {
	ops := manyOps(impl.MaxOps, tickOp(1))
	st, codes := impl.PlayStore(impl.DefaultSpec(), 1, ops)
	wantStore(t, "MaxOps", st, storeBy(t, impl.DefaultSpec(), 1, ops))
	if slices.Max(codes) != impl.StoreDone {
		t.Errorf("%v", codes)
	}
	bad, idle := refusedOps()
	for _, name := range []string{"full", "compacted"} {
		for _, o := range []impl.Op{tickOp(0), tickOp(1), tickOp(impl.MaxStep), editOp(2, 0), reportOp(1, 1, 2)} {
			if got, code := impl.StoreOp(st, o); code != impl.StoreFull || !sameInAll(got, st) {
				t.Errorf("%s: %v: %d, %v", name, o, code, got)
			}
		}
		// What is no op is bad ahead of that.
		wantBad(t, name, st, slices.Concat(bad, noOps(), idle))
		st, _ = impl.StoreCompact(st)
	}
}

// Count tells how many were done, whatever the journal and the engine say.
func TestCountIsBelievedByStoreOp(t *testing.T) {
	for _, count := range []int{math.MinInt, -1, 0, 1, 77, impl.MaxOps - 1, impl.MaxOps, impl.MaxOps + 1, 5000, math.MaxInt} {
		st := storeBy(t, impl.DefaultSpec(), 1, fewOps())
		st.Count = count
		got, code := impl.StoreOp(st, tickOp(5))
		if count >= impl.MaxOps {
			if code != impl.StoreFull || !sameInAll(got, st) {
				t.Errorf("Count %d: code %d, %v", count, code, got)
			}
			continue
		}
		want := storeBy(t, impl.DefaultSpec(), 1, append(fewOps(), tickOp(5)))
		want.Count = count + 1
		wantStore(t, "Count "+strconv.Itoa(count), got, want)
		if code != impl.StoreDone {
			t.Errorf("Count %d: code %d", count, code)
		}
	}
}

// wideOp has a record of size bytes, of 8 to 18, and is done by every engine.
func wideOp(size int) impl.Op {
	o := impl.Op{A: 200}
	for _, x := range []*int{&o.B, &o.C} {
		grown := min(size-8, 5)
		*x, size = most>>(7*(5-grown)), size-grown
		if grown == 0 {
			*x = 1
		}
	}
	return o
}

func TestWideOps(t *testing.T) {
	for size := 8; size <= 18; size++ {
		if got := len(opBytes(wideOp(size))); got != size {
			t.Errorf("%v has %d bytes, want %d", wideOp(size), got, size)
		}
	}
}

// wideOps leave just room bytes behind them.
func wideOps(room int) []impl.Op {
	ops, left := []impl.Op{}, impl.MaxFile-room
	for left > 0 {
		size := min(left, 18)
		if left > 18 && left < 26 {
			size = 10
		}
		ops, left = append(ops, wideOp(size)), left-size
	}
	return ops
}

func TestRoomForOneRecordMoreAndForNone(t *testing.T) {
	for size := 8; size <= 18; size++ {
		for _, over := range []int{-1, 0, 1} {
			ops, o := wideOps(size-over), wideOp(size)
			st := storeBy(t, impl.DefaultSpec(), 1, ops)
			got, code := impl.StoreOp(st, o)
			if impl.RoomLeft(st.Journal) != size-over || len(ops) >= impl.MaxOps {
				t.Fatalf("room for %d, %d ops", impl.RoomLeft(st.Journal), len(ops))
			}
			if over > 0 {
				if code != impl.StoreFull || !sameInAll(got, st) {
					t.Errorf("%d bytes, room for %d: code %d, %v", size, size-over, code, got)
				}
				continue
			}
			wantStore(t, "with room", got, storeBy(t, impl.DefaultSpec(), 1, append(ops, o)))
			if code != impl.StoreDone {
				t.Errorf("%d bytes, room for %d: code %d", size, size-over, code)
			}
		}
	}
}

func TestAFullDisk(t *testing.T) {
	ops := wideOps(0)
	st, codes := impl.PlayStore(impl.DefaultSpec(), 1, append(ops, tickOp(0), tickOp(1), reportOp(9999, 1, 2), tickOp(2001)))
	want := append(make([]int, len(ops)), impl.StoreFull, impl.StoreFull, impl.StoreBad, impl.StoreBad)
	if !slices.Equal(codes, want) || impl.RoomLeft(st.Journal) != 0 {
		t.Errorf("%v, room for %d", codes, impl.RoomLeft(st.Journal))
	}
	wantStore(t, "full", st, storeBy(t, impl.DefaultSpec(), 1, ops))
	for _, keep := range []int{-1, 0, 3, 7, 9000} {
		if got, ok := impl.CrashStore(st, tickOp(0), keep); ok || !sameInAll(got, st) {
			t.Errorf("crash without room, keep %d: %v, %v", keep, got, ok)
		}
	}
	// Compacted it goes on, till Snap has no room for all.
	compact, ok := impl.StoreCompact(st)
	if !ok || len(compact.Journal.Snap) != impl.MaxFile || !impl.SameStore(compact, st) {
		t.Errorf("compacted: %v, %d bytes", ok, len(compact.Journal.Snap))
	}
	more, code := impl.StoreOp(compact, tickOp(1))
	opened, ok2 := impl.OpenStore(st.Spec, 1, more.Journal)
	if code != impl.StoreDone || !ok2 || more.Count != len(ops)+1 {
		t.Errorf("code %d, %v, Count %d", code, ok2, more.Count)
	}
	wantStore(t, "opened", opened, more)
	if got, ok := impl.StoreCompact(more); ok || !sameInAll(got, more) {
		t.Errorf("compacted once more: %v, %v", got, ok)
	}
}

func TestStoreCompact(t *testing.T) {
	for n := range len(fewOps()) + 1 {
		st := storeBy(t, impl.DefaultSpec(), 1, fewOps()[:n])
		want := storeCopy(st)
		want.Journal = impl.Journal{Snap: opBytes(fewOps()[:n]...)}
		for _, name := range []string{"compacted", "compacted twice"} {
			got, ok := impl.StoreCompact(st)
			opened, ok2 := impl.OpenStore(got.Spec, got.Rev, got.Journal)
			if !ok || !ok2 || !impl.SameStore(got, st) || !impl.SameStore(opened, st) {
				t.Errorf("%s, %d ops: %v, %v", name, n, ok, ok2)
			}
			wantStore(t, name, got, want)
			wantStore(t, name+", opened", opened, want)
			st = got
		}
		for _, o := range fewOps()[n:] {
			st, _ = impl.StoreOp(st, o)
		}
		if !impl.SameStore(st, storeBy(t, impl.DefaultSpec(), 1, fewOps())) || len(st.Journal.Snap) != len(opBytes(fewOps()[:n]...)) {
			t.Errorf("written on behind %d ops: %v", n, st)
		}
	}
}

// StoreCompact asks for nothing but the journal; it takes all records, those of no op as well.
func TestStoreCompactOfAnyJournal(t *testing.T) {
	for name, j := range goodJournals() {
		st := impl.Store{Spec: specWith(func(s *impl.Spec) { s.Base = 0 }), Rev: -4, Journal: j, Engine: standing(func(*impl.Engine) {}), Count: 999}
		snap, _, behind := scanBy(j.Snap)
		tail, _, _ := scanBy(j.Tail)
		want, whole := storeCopy(st), behind == impl.TailNone
		if whole {
			want.Journal = impl.Journal{Snap: joined(append(snap, tail...))}
		}
		got, ok := impl.StoreCompact(st)
		if ok != whole {
			t.Errorf("%s: %v", name, ok)
		}
		wantStore(t, name, got, want)
	}
	for name, j := range badJournals() {
		st := storeBy(t, impl.DefaultSpec(), 1, fewOps())
		st.Journal = j
		if got, ok := impl.StoreCompact(st); ok || !sameInAll(got, st) {
			t.Errorf("%s: %v, %v", name, got, ok)
		}
	}
}

func TestStoreCompactUpToAFullSnap(t *testing.T) {
	for _, size := range []int{18, 8} {
		for _, over := range []int{0, 1} {
			ops := wideOps(size - over)
			st := impl.Store{Rev: 3, Journal: impl.Journal{Snap: opBytes(ops...), Tail: opBytes(wideOp(size), tickOp(1))[:size+4]}}
			want := storeCopy(st)
			if over == 0 {
				want.Journal = impl.Journal{Snap: opBytes(append(ops, wideOp(size))...)}
			}
			got, ok := impl.StoreCompact(st)
			if ok != (over == 0) {
				t.Errorf("%d bytes, %d too many: %v", size, over, ok)
			}
			wantStore(t, "Snap", got, want)
		}
	}
}

func checkOpen(t *testing.T, name string, j impl.Journal, ops []impl.Op) {
	t.Helper()
	_, size, _ := scanBy(j.Tail)
	want := storeBy(t, impl.DefaultSpec(), 1, ops)
	want.Journal = synced(j.Tail[:size])
	want.Journal.Snap = j.Snap
	got, ok := impl.OpenStore(impl.DefaultSpec(), 1, j)
	if !ok || !impl.SameStore(got, want) {
		t.Errorf("%s: %v", name, ok)
	}
	wantStore(t, name, got, want)
	again, ok := impl.OpenStore(impl.DefaultSpec(), 1, got.Journal)
	if !ok {
		t.Errorf("%s, again: %v", name, ok)
	}
	wantStore(t, name+", again", again, want)
}

func TestOpenStoreIsTheSame(t *testing.T) {
	ops := fewOps()
	for n := range len(ops) + 1 {
		snap, tail := opBytes(ops[:n]...), opBytes(ops[n:]...)
		for _, safe := range []int{0, len(tail) / 2, len(tail)} {
			checkOpen(t, "in both files", impl.Journal{Snap: snap, Tail: tail, Safe: safe}, ops)
		}
		st, _ := impl.PlayStore(impl.DefaultSpec(), 1, ops[:n])
		opened, ok := impl.OpenStore(impl.DefaultSpec(), 1, st.Journal)
		if !ok || !impl.SameStore(opened, st) {
			t.Errorf("%d ops: %v, %v", n, opened, ok)
		}
		wantStore(t, "opened again", opened, st)
	}
}

func TestOpenStoreOfATailThatIsTornOrBent(t *testing.T) {
	ops := fewOps()
	frames, ends := opBytes(ops...), frameEnds(opRecordsBy(ops))
	for at := range frames {
		n := len(ends) - 1
		for ends[n] > at {
			n--
		}
		bent := slices.Clone(frames)
		bent[at] ^= 128
		for _, safe := range []int{0, at / 2, at} {
			checkOpen(t, "torn at "+strconv.Itoa(at), impl.Journal{Tail: frames[:at], Safe: safe}, ops[:n])
			checkOpen(t, "bent at "+strconv.Itoa(at), impl.Journal{Tail: bent, Safe: safe}, ops[:n])
		}
		checkOpen(t, "torn behind a snap", impl.Journal{Snap: opBytes(ops[0]), Tail: opBytes(ops[1:]...)[:max(at-ends[1], 0)]}, ops[:max(n, 1)])
	}
}

func wantUnopened(t *testing.T, name string, s impl.Spec, j impl.Journal) {
	t.Helper()
	if got, ok := impl.OpenStore(s, 1, j); ok || !sameInAll(got, impl.Store{}) {
		t.Errorf("%s: OpenStore %v, %v", name, got, ok)
	}
}

// inEachFile has bytes behind those of the ops and ahead of them, in Snap and in Tail.
func inEachFile(b []byte, ops []impl.Op) []impl.Journal {
	frames := opBytes(ops...)
	behind, ahead := slices.Concat(frames, b), slices.Concat(b, frames)
	return []impl.Journal{synced(behind), synced(ahead), {Tail: behind}, {Snap: behind}, {Snap: ahead, Tail: frames}, {Snap: frames, Tail: behind, Safe: 3}, {Snap: frames, Tail: ahead}}
}

func TestOpenStoreOfARecordThatIsNoOps(t *testing.T) {
	for _, r := range strangeRecords() {
		for _, j := range inEachFile(frameBytes(r), []impl.Op{tickOp(1), tickOp(2)}) {
			wantUnopened(t, "a record of no op", impl.DefaultSpec(), j)
		}
	}
}

func TestOpenStoreOfAnOpThatIsNotDone(t *testing.T) {
	bad, idle := refusedOps()
	for _, o := range append(bad, idle...) {
		for _, j := range inEachFile(opBytes(o), fewOps()[:2]) {
			wantUnopened(t, "an op that is not done", impl.DefaultSpec(), j)
		}
	}
	for _, o := range slices.Concat(bad, idle, lateOps()) {
		wantUnopened(t, "the last is not done", impl.DefaultSpec(), synced(opBytes(append(fewOps(), o)...)))
	}
	// What was done with one Spec is not done with another.
	j := synced(opBytes(editOp(2, 2)))
	wantUnopened(t, "another Spec", specWith(func(s *impl.Spec) { s.Surge = 3 }), j)
	if _, ok := impl.OpenStore(impl.DefaultSpec(), 1, j); !ok {
		t.Error("its own Spec")
	}
}

func TestOpenStoreOfMaxOpsAndOneMore(t *testing.T) {
	ops := manyOps(impl.MaxOps, tickOp(1))
	for _, n := range []int{0, 1, 150, impl.MaxOps} {
		snap, tail := opBytes(ops[:n]...), opBytes(ops[n:]...)
		checkOpen(t, "MaxOps", impl.Journal{Snap: snap, Tail: tail, Safe: min(2, len(tail))}, ops)
		checkOpen(t, "MaxOps and a torn one", impl.Journal{Snap: snap, Tail: append(tail, 0, 3, 1)}, ops)
		wantUnopened(t, "one more", impl.DefaultSpec(), impl.Journal{Snap: snap, Tail: append(tail, opBytes(tickOp(1))...)})
		wantUnopened(t, "many more", impl.DefaultSpec(), impl.Journal{Snap: snap, Tail: append(tail, opBytes(ops[:100]...)...)})
	}
	wantUnopened(t, "in Snap alone", impl.DefaultSpec(), impl.Journal{Snap: opBytes(append(ops, tickOp(1))...)})
}

func TestOpenStoreOfJournalsThatCanNotBeRead(t *testing.T) {
	for name, j := range badJournals() {
		wantUnopened(t, name, impl.DefaultSpec(), j)
	}
	frames := opBytes(fewOps()...)
	wantUnopened(t, "Safe beyond Tail", impl.DefaultSpec(), impl.Journal{Tail: frames, Safe: len(frames) + 1})
	wantUnopened(t, "Safe below 0", impl.DefaultSpec(), impl.Journal{Tail: frames, Safe: -1})
	ends := frameEnds(opRecordsBy(fewOps()))
	for at := range frames {
		if !slices.Contains(ends, at) {
			wantUnopened(t, "a torn Snap", impl.DefaultSpec(), impl.Journal{Snap: frames[:at]})
			wantUnopened(t, "a torn Snap, and more", impl.DefaultSpec(), impl.Journal{Snap: frames[:at], Tail: frames[at:], Safe: 1})
		}
		bent := slices.Clone(frames)
		bent[at]++
		wantUnopened(t, "a bent Snap", impl.DefaultSpec(), impl.Journal{Snap: bent, Tail: frames})
	}
}

// wantCrash says what must stand behind a crash that keeps this much.
func wantCrash(t *testing.T, st impl.Store, o impl.Op, keep int, want impl.Store) {
	t.Helper()
	was := storeCopy(st)
	got, ok := impl.CrashStore(st, o, keep)
	if !ok || !sameInAll(st, was) {
		t.Errorf("%v, keep %d: %v", o, keep, ok)
	}
	wantStore(t, "behind the crash", got, want)
}

func wantNoCrash(t *testing.T, name string, st impl.Store, o impl.Op, keep int) {
	t.Helper()
	if got, ok := impl.CrashStore(st, o, keep); ok || !sameInAll(got, st) {
		t.Errorf("%s: %v, keep %d: %v, %v", name, o, keep, got, ok)
	}
}

// keepsAround are from below 0 to past the end of a record of that size.
func keepsAround(size int) []int {
	list := []int{math.MinInt, math.MinInt + 1, -9000, impl.MaxFile, 9000, math.MaxInt - 1, math.MaxInt}
	for keep := -3; keep <= size+3; keep++ {
		list = append(list, keep)
	}
	return list
}

// What follows: behind a crash stands what stood ahead of the op or behind it, and nothing else.
func TestWhatStandsBehindACrash(t *testing.T) {
	ops := fewOps()
	for n, o := range ops {
		ahead := storeBy(t, impl.DefaultSpec(), 1, ops[:n])
		behind, code := impl.StoreOp(ahead, o)
		size := len(opBytes(o))
		for _, keep := range keepsAround(size) {
			want := ahead
			if keep >= size {
				want = behind
			}
			wantCrash(t, ahead, o, keep, want)
		}
		compact, ok := impl.StoreCompact(ahead)
		compactBehind, code2 := impl.StoreOp(compact, o)
		if code != impl.StoreDone || code2 != impl.StoreDone || !ok || impl.SameStore(ahead, behind) {
			t.Fatalf("op %d: codes %d and %d, %v", n, code, code2, ok)
		}
		wantCrash(t, compact, o, size-1, compact)
		wantCrash(t, compact, o, size, compactBehind)
	}
}

// A store crashes at each of its ops and goes on, as if it had not.
func TestAStoreThatCrashesAtEachOp(t *testing.T) {
	st, _ := impl.NewStore(impl.DefaultSpec(), 1)
	for n, o := range fewOps() {
		for _, keep := range []int{-1, 0, n % 7, 6} {
			st, _ = impl.CrashStore(st, o, keep)
			wantStore(t, "torn", st, storeBy(t, impl.DefaultSpec(), 1, fewOps()[:n]))
		}
		if n%2 == 0 {
			st, _ = impl.CrashStore(st, o, 99)
		} else {
			st, _ = impl.StoreOp(st, o)
		}
		wantStore(t, "whole", st, storeBy(t, impl.DefaultSpec(), 1, fewOps()[:n+1]))
	}
}

// The record of an op that the engine refuses may be kept whole: such a store can't be opened.
func TestACrashAtAnOpThatIsNone(t *testing.T) {
	bad, idle := refusedOps()
	for _, st := range []impl.Store{storeBy(t, impl.DefaultSpec(), 1, fewOps()), storeBy(t, impl.DefaultSpec(), 1, nil)} {
		for _, o := range append(bad, idle...) {
			size := len(opBytes(o))
			for _, keep := range keepsAround(size) {
				if keep < size {
					wantCrash(t, st, o, keep, st)
				} else {
					wantNoCrash(t, "kept whole", st, o, keep)
				}
			}
		}
	}
}

func TestACrashAtMaxOps(t *testing.T) {
	st := storeBy(t, impl.DefaultSpec(), 1, manyOps(impl.MaxOps, tickOp(1)))
	last := storeBy(t, impl.DefaultSpec(), 1, manyOps(impl.MaxOps-1, tickOp(1)))
	for _, keep := range []int{-1, 0, 6} {
		wantCrash(t, st, tickOp(1), keep, st)
		wantCrash(t, last, tickOp(1), keep, last)
	}
	for _, keep := range []int{7, 8, 9000} {
		wantNoCrash(t, "one too many is kept whole", st, tickOp(1), keep)
		wantCrash(t, last, tickOp(1), keep, st)
	}
}

func TestACrashWithRoomForJustOneRecord(t *testing.T) {
	for _, size := range []int{8, 13, 18} {
		ops, o := wideOps(size), wideOp(size)
		st := storeBy(t, impl.DefaultSpec(), 1, ops)
		wantCrash(t, st, o, size-1, st)
		wantCrash(t, st, o, size, storeBy(t, impl.DefaultSpec(), 1, append(ops, o)))
		st = storeBy(t, impl.DefaultSpec(), 1, wideOps(size-1))
		for _, keep := range []int{-1, 0, size - 1, size, 9000} {
			wantNoCrash(t, "a byte too few", st, o, keep)
		}
	}
}

// Behind a crash there is only what Spec, Rev and the journal say: the engine and Count are lost.
func TestACrashOfAStoreByHand(t *testing.T) {
	ops, o := fewOps(), tickOp(7)
	frames, size := opBytes(ops...), len(opBytes(o))
	ends := frameEnds(opRecordsBy(ops))
	for _, e := range []impl.Engine{{}, standing(func(*impl.Engine) {}), badEngines()["Phase 4"]} {
		st := impl.Store{Spec: impl.DefaultSpec(), Rev: 1, Journal: synced(frames), Engine: e, Count: -77}
		wantCrash(t, st, o, 0, storeBy(t, impl.DefaultSpec(), 1, ops))
		wantCrash(t, st, o, size, storeBy(t, impl.DefaultSpec(), 1, append(ops, o)))
		// A tail that was not synced by then is lost with the record.
		for safe := range len(frames) + 1 {
			for _, keep := range []int{-1, 0, 5, len(frames) - safe, len(frames) - safe + size} {
				st.Journal.Safe = safe
				left := append(slices.Clone(ends), len(frames)+size)
				n := len(left) - 1
				for left[n] > safe+max(keep, 0) {
					n--
				}
				wantCrash(t, st, o, keep, storeBy(t, impl.DefaultSpec(), 1, append(ops, o)[:n]))
			}
		}
	}
}

func TestACrashBehindATailThatIsTorn(t *testing.T) {
	frames := opBytes(fewOps()[:3]...)
	st := storeBy(t, impl.DefaultSpec(), 1, fewOps()[:3])
	st.Journal = synced(frames[:len(frames)-1])
	// The record behind it may be kept whole: it is not found any more.
	for _, keep := range []int{-1, 0, 7, 9000} {
		wantCrash(t, st, tickOp(1), keep, storeBy(t, impl.DefaultSpec(), 1, fewOps()[:2]))
	}
}

func TestCrashesThatAreRefused(t *testing.T) {
	good := storeBy(t, impl.DefaultSpec(), 1, fewOps())
	for _, keep := range []int{-1, 0, 3, 7, 9000} {
		for name, j := range badJournals() {
			st := storeCopy(good)
			st.Journal = j
			wantNoCrash(t, name, st, tickOp(1), keep)
		}
		for name, s := range badSpecs() {
			st := storeCopy(good)
			st.Spec = s
			wantNoCrash(t, name, st, tickOp(1), keep)
		}
		for _, rev := range []int{0, -1, 1001, math.MinInt, math.MaxInt} {
			st := storeCopy(good)
			st.Rev = rev
			wantNoCrash(t, "Rev "+strconv.Itoa(rev), st, tickOp(1), keep)
		}
		for _, j := range []impl.Journal{{Snap: []byte{100}}, {Snap: good.Journal.Tail[:9]}, synced(frameBytes(impl.Record{Kind: 9})), synced(opBytes(tickOp(2001))), {Snap: opBytes(manyOps(201, tickOp(1))...)}} {
			st := storeCopy(good)
			st.Journal = j
			wantNoCrash(t, "what can't be opened", st, tickOp(1), keep)
		}
	}
}

func TestPlayStoreOfMaxListAndOneMore(t *testing.T) {
	for _, o := range []impl.Op{tickOp(1), tickOp(2001), editOp(2, 0), reportOp(1, 1, 2), {Kind: 9}, wideOp(18)} {
		st, codes := impl.PlayStore(impl.DefaultSpec(), 1, manyOps(impl.MaxList, o))
		if len(codes) != impl.MaxList || st.Rev != 1 || st.Count > impl.MaxOps {
			t.Errorf("%v: %v, %d codes", o, st, len(codes))
		}
		want := impl.StoreDone
		if st.Count == 0 {
			want = impl.StoreBad
		}
		for i, code := range codes {
			if i == st.Count && st.Count > 0 {
				want = impl.StoreFull
			}
			if code != want {
				t.Fatalf("%v: op %d has code %d, want %d", o, i, code, want)
			}
		}
		for _, n := range []int{impl.MaxList + 1, impl.MaxList + 2, 5000} {
			if st, codes := impl.PlayStore(impl.DefaultSpec(), 1, manyOps(n, o)); len(codes) != 0 || !sameInAll(st, impl.Store{}) {
				t.Errorf("%d times %v: %v, %v", n, o, st, codes)
			}
		}
	}
	st, _ := impl.PlayStore(impl.DefaultSpec(), 1, manyOps(impl.MaxList, tickOp(1)))
	wide, _ := impl.PlayStore(impl.DefaultSpec(), 1, manyOps(impl.MaxList, wideOp(18)))
	if st.Count != impl.MaxOps || wide.Count != impl.MaxFile/18 {
		t.Errorf("%d and %d done", st.Count, wide.Count)
	}
}

func TestCodesOfAPlayAreInOrder(t *testing.T) {
	ops := []impl.Op{tickOp(1), {Kind: 5}, reportOp(1, 1, 2), reportOp(1, 1, 2), editOp(0, 0), editOp(2, 0), tickOp(-1), reportOp(9, 1, 1), reportOp(1, 0, 1), {Kind: 1, A: 3, C: most + 1}, tickOp(0)}
	st, codes := impl.PlayStore(impl.DefaultSpec(), 1, ops)
	if !slices.Equal(codes, []int{0, 1, 0, 1, 1, 0, 1, 1, 1, 1, 0}) {
		t.Errorf("%v", codes)
	}
	wantStore(t, "what is done", st, storeBy(t, impl.DefaultSpec(), 1, []impl.Op{ops[0], ops[2], ops[5], ops[10]}))
}

// storeByHand is one that is changed at one place to see whether SameStore looks there.
func storeByHand(change func(t *impl.Store)) impl.Store {
	e := standing(func(e *impl.Engine) { e.Phase, e.Tries, e.WaitTill = impl.PhaseRolls, 3, 107 })
	j := impl.Journal{Snap: opBytes(tickOp(1)), Tail: opBytes(tickOp(2), tickOp(3)), Safe: 7}
	t := impl.Store{Spec: impl.DefaultSpec(), Rev: 5, Journal: j, Engine: e, Count: 9}
	change(&t)
	return t
}

func TestSameStoreSeesEachDifference(t *testing.T) {
	changes := map[string]func(t *impl.Store){
		"Rev":         func(t *impl.Store) { t.Rev = 6 },
		"Count":       func(t *impl.Store) { t.Count = 8 },
		"Phase":       func(t *impl.Store) { t.Engine.Phase = impl.PhaseBack },
		"Target":      func(t *impl.Store) { t.Engine.Target = 3 },
		"Good":        func(t *impl.Store) { t.Engine.Good = 3 },
		"available":   func(t *impl.Store) { t.Engine.Now = 82 },
		"no engine":   func(t *impl.Store) { t.Engine.Tries = -1 },
		"Id":          func(t *impl.Store) { t.Engine.Fleet.Pods[1].Id = 6 },
		"a pod's Rev": func(t *impl.Store) { t.Engine.Fleet.Pods[0].Rev = 1 },
		"State":       func(t *impl.Store) { t.Engine.Fleet.Pods[1].State = impl.PodGoing },
		"Gen":         func(t *impl.Store) { t.Engine.Fleet.Pods[1].Gen++ },
		"Since":       func(t *impl.Store) { t.Engine.Fleet.Pods[0].Since++ },
		"Next":        func(t *impl.Store) { t.Engine.Fleet.Next++ },
		"a bad Next":  func(t *impl.Store) { t.Engine.Fleet.Next = 0 },
		"a pod less":  func(t *impl.Store) { t.Engine.Fleet.Pods = t.Engine.Fleet.Pods[:1] },
		"no pods":     func(t *impl.Store) { t.Engine.Fleet.Pods = nil },
		"a pod more": func(t *impl.Store) {
			t.Engine.Fleet.Pods = append(t.Engine.Fleet.Pods, impl.Pod{Id: 8, Rev: 2, State: impl.PodGoing})
		},
	}
	for i := range specFields(&impl.Spec{}) {
		changes["Spec "+strconv.Itoa(i)] = func(t *impl.Store) { *specFields(&t.Spec)[i]++ }
	}
	none := storeByHand(func(*impl.Store) {})
	for name, change := range changes {
		other := storeByHand(change)
		if impl.SameStore(none, other) || impl.SameStore(other, none) {
			t.Errorf("%s: is the same", name)
		}
		if !impl.SameStore(other, storeCopy(other)) {
			t.Errorf("%s: is not the same as itself", name)
		}
	}
}

// A Fleet is its pods and its Next, with pods and without, and where it is no Fleet too.
func TestSameStoreSeesNext(t *testing.T) {
	played, _ := impl.PlayStore(impl.DefaultSpec(), 1, []impl.Op{tickOp(1)})
	fresh, _ := impl.NewStore(impl.DefaultSpec(), 1)
	for _, st := range []impl.Store{fresh, played, {}} {
		next := st.Engine.Fleet.Next
		for _, x := range []int{next - 1, next + 1, 0, -next, top, top + 1, math.MinInt, math.MaxInt} {
			other := storeCopy(st)
			other.Engine.Fleet.Next = x
			if got := impl.SameStore(st, other); got != (x == next) || got != impl.SameStore(other, st) {
				t.Errorf("Next %d and %d: %v", next, x, got)
			}
			if !impl.SameStore(other, storeCopy(other)) {
				t.Errorf("Next %d: is not the same as itself", x)
			}
		}
	}
}

func TestSameStoreSeesNothingElse(t *testing.T) {
	none := storeByHand(func(*impl.Store) {})
	for name, change := range map[string]func(t *impl.Store){
		"nothing":           func(t *impl.Store) {},
		"no journal":        func(t *impl.Store) { t.Journal = impl.Journal{} },
		"Snap":              func(t *impl.Store) { t.Journal.Snap = nil },
		"Tail":              func(t *impl.Store) { t.Journal.Tail = append(t.Journal.Tail, 4) },
		"Safe":              func(t *impl.Store) { t.Journal.Safe = 14 },
		"a bad Safe":        func(t *impl.Store) { t.Journal.Safe = -1 },
		"Now":               func(t *impl.Store) { t.Engine.Now = 101 },
		"Started":           func(t *impl.Store) { t.Engine.Started = 41 },
		"Tries":             func(t *impl.Store) { t.Engine.Tries = 2 },
		"WaitTill":          func(t *impl.Store) { t.Engine.WaitTill = 0 },
		"the engine's Spec": func(t *impl.Store) { t.Engine.Spec = impl.DefaultSpec() },
	} {
		other := storeByHand(change)
		if !impl.SameStore(none, other) || !impl.SameStore(other, none) {
			t.Errorf("%s: is not the same", name)
		}
	}
	// Engines that are not EngineOk have one text, an empty one.
	for name, e := range badEngines() {
		a := storeByHand(func(t *impl.Store) { t.Engine = e })
		b := storeByHand(func(t *impl.Store) { t.Engine = impl.Engine{Fleet: e.Fleet, Now: -1} })
		if !impl.SameStore(a, b) || !impl.SameStore(impl.Store{Engine: e}, impl.Store{Engine: b.Engine}) || impl.SameStore(a, none) {
			t.Errorf("%s: is another", name)
		}
	}
	if !impl.SameStore(impl.Store{}, impl.Store{}) || !impl.SameStore(impl.Store{}, impl.Store{Engine: impl.Engine{Fleet: impl.Fleet{Pods: []impl.Pod{}}}}) {
		t.Error("the zero value")
	}
}

// roomyStore has room behind each of its lists, so that what is written behind their ends shows in the pieces of memory.
func roomyStore(t *testing.T) impl.Store {
	t.Helper()
	st := storeBy(t, impl.DefaultSpec(), 1, fewOps())
	st.Journal.Snap = roomy(opBytes(fewOps()[:4]...), 77)
	st.Journal.Tail = roomy(opBytes(fewOps()[4:]...), 77)
	st.Journal.Safe = 5
	st.Engine.Fleet.Pods = roomy(st.Engine.Fleet.Pods, impl.Pod{Id: -7})
	return st
}

// storesOf are the answers at one store, taken and refused.
func storesOf(st impl.Store) []impl.Store {
	list := []impl.Store{}
	for _, o := range []impl.Op{tickOp(1), tickOp(2001), {Kind: 7}, editOp(4, 2)} {
		a, _ := impl.StoreOp(st, o)
		list = append(list, a)
		for _, keep := range []int{-1, 5, 9000} {
			b, _ := impl.CrashStore(st, o, keep)
			list = append(list, b)
		}
	}
	c, _ := impl.StoreCompact(st)
	d, _ := impl.OpenStore(st.Spec, st.Rev, st.Journal)
	impl.SameStore(st, c)
	return append(list, c, d)
}

func scribblePods(pods []impl.Pod) {
	whole := pods[:cap(pods)]
	for i := range whole {
		whole[i].Id ^= 255
	}
}

func checkNewMemory(t *testing.T, name string, st impl.Store) {
	t.Helper()
	whole := func() impl.Store {
		all := storeCopy(st)
		all.Journal.Snap, all.Journal.Tail = slices.Clone(st.Journal.Snap[:cap(st.Journal.Snap)]), slices.Clone(st.Journal.Tail[:cap(st.Journal.Tail)])
		all.Engine.Fleet.Pods = slices.Clone(st.Engine.Fleet.Pods[:cap(st.Engine.Fleet.Pods)])
		return all
	}
	was := whole()
	answers, kept := storesOf(st), []impl.Store{}
	for _, a := range answers {
		kept = append(kept, storeCopy(a))
	}
	wantStore(t, name+" was written into", whole(), was)
	scribble(st.Journal.Snap)
	scribble(st.Journal.Tail)
	scribblePods(st.Engine.Fleet.Pods)
	for i, a := range answers {
		wantStore(t, name+" shares memory with answer "+strconv.Itoa(i), a, kept[i])
		scribble(a.Journal.Snap)
		if !bytes.Equal(a.Journal.Tail, kept[i].Journal.Tail) {
			t.Errorf("%s: the files of answer %d share memory", name, i)
		}
		scribble(a.Journal.Tail)
		scribblePods(a.Engine.Fleet.Pods)
	}
}

func TestStoresAreNotWrittenIntoNorShared(t *testing.T) {
	checkNewMemory(t, "a store", roomyStore(t))
	full := roomyStore(t)
	full.Count = impl.MaxOps
	checkNewMemory(t, "a full store", full)
	unread := roomyStore(t)
	unread.Journal.Safe = -1
	checkNewMemory(t, "a store without a journal", unread)
	bent := roomyStore(t)
	bent.Journal.Snap[0] = 100
	checkNewMemory(t, "a store with a bent Snap", bent)
	one := roomyStore(t)
	one.Journal.Snap, one.Journal.Safe = one.Journal.Tail, -1
	for i, a := range storesOf(one) {
		was := slices.Clone(a.Journal.Tail)
		scribble(a.Journal.Snap)
		if !bytes.Equal(a.Journal.Tail, was) {
			t.Errorf("the files of answer %d share memory", i)
		}
	}
}

func TestPlaysOfStoresAreNewMemory(t *testing.T) {
	ops := roomy(fewOps(), impl.Op{Kind: -7})
	kept := slices.Clone(ops[:cap(ops)])
	a, codes := impl.PlayStore(impl.DefaultSpec(), 1, ops)
	b, codes2 := impl.PlayStore(impl.DefaultSpec(), 1, ops)
	scribble(a.Journal.Tail)
	scribblePods(a.Engine.Fleet.Pods)
	for i := range codes[:cap(codes)] {
		codes[:cap(codes)][i] = -1
	}
	wantStore(t, "played once more", b, storeBy(t, impl.DefaultSpec(), 1, fewOps()))
	if !slices.Equal(ops[:cap(ops)], kept) || slices.Max(codes2) != 0 {
		t.Errorf("%v, %v", ops[:cap(ops)], codes2)
	}
	r, _ := impl.OpRecord(reportOp(1, 2, 3))
	r.Nums[0] = 9
	nums := []int{4, 5, 6, 7}
	o, ok := impl.RecordOp(impl.Record{Kind: 2, Nums: nums[:3]})
	if again, _ := impl.OpRecord(reportOp(1, 2, 3)); !slices.Equal(again.Nums, []int{1, 2, 3}) || !ok || o != reportOp(4, 5, 6) || !slices.Equal(nums, []int{4, 5, 6, 7}) {
		t.Errorf("%v, %v, %v", again, o, nums)
	}
}
