package tests

import (
	"bytes"
	"math"
	"math/rand"
	"slices"
	"testing"

	"loop.example/g00734/impl"
)

const most = impl.MaxNumber

// edgeNumbers are those around which PutNum needs one group more.
func edgeNumbers() []int {
	list := []int{0, 1, 2, 127, 128, 129, 255, 256, 300, 65535, most - 1, most}
	for bits := 7; bits < 40; bits += 7 {
		list = append(list, 1<<bits-1, 1<<bits, 1<<bits+1)
	}
	return list
}

func noNumbers() []int {
	return []int{-1, -2, -128, most + 1, most + 2, 1 << 42, math.MinInt, math.MinInt + 1, math.MaxInt}
}

func manyNums(n int, x int) []int {
	list := []int{}
	for range n {
		list = append(list, x)
	}
	return list
}

func goodRecords() []impl.Record {
	list := []impl.Record{
		{},
		{Kind: 0, Nums: []int{}},
		{Kind: 99},
		{Kind: 4, Nums: []int{300}},
		{Kind: 7, Nums: []int{0}},
		{Kind: 0, Nums: []int{most}},
		{Kind: 99, Nums: manyNums(12, most)},
		{Kind: 0, Nums: manyNums(12, 0)},
		{Kind: 50, Nums: []int{0, most, 0, most}},
		{Kind: 1, Nums: []int{1, 2, 3, 4, 5, 6, 7, 8, 9, 10, 11, 12}},
	}
	for i, x := range edgeNumbers() {
		list = append(list, impl.Record{Kind: i, Nums: []int{x, i, x}})
	}
	return list
}

func badRecords() map[string]impl.Record {
	bad := map[string]impl.Record{
		"Kind below 0":              {Kind: -1},
		"Kind above 99":             {Kind: 100, Nums: []int{1}},
		"Kind that a byte can't":    {Kind: 256},
		"Kind far below":            {Kind: math.MinInt},
		"Kind far above":            {Kind: math.MaxInt},
		"13 numbers":                {Kind: 4, Nums: manyNums(13, 1)},
		"as many as a byte can't":   {Kind: 4, Nums: manyNums(256, 1)},
		"the last of 12 too great":  {Kind: 4, Nums: append(manyNums(11, 1), most+1)},
		"the first of 12 too small": {Kind: 4, Nums: append([]int{-1}, manyNums(11, 1)...)},
	}
	return bad
}

// numBytes is PutNum by the document's words, by way of the bits.
func numBytes(x int) []byte {
	b := []byte{}
	for low := 0; low == 0 || x>>low > 0; low += 7 {
		b = append(b, byte(x>>low&127|128))
	}
	b[len(b)-1] -= 128
	return b
}

// frameBytes is FrameRecord by the document's words.
func frameBytes(r impl.Record) []byte {
	b := []byte{byte(r.Kind), byte(len(r.Nums))}
	for _, x := range r.Nums {
		b = append(b, numBytes(x)...)
	}
	sum := sumBy(b)
	return append(b, byte(sum>>8), byte(sum))
}

func sumBy(b []byte) int {
	sum := 1
	for _, x := range b {
		sum *= 131
		sum += int(x)
		sum++
		sum %= 65521
	}
	return sum
}

// sealed puts the right sum behind bytes, whatever they are.
func sealed(b ...byte) []byte {
	sum := sumBy(b)
	return append(slices.Clone(b), byte(sum>>8), byte(sum))
}

func joined(list []impl.Record) []byte {
	b := []byte{}
	for _, r := range list {
		b = append(b, frameBytes(r)...)
	}
	return b
}

func sameAs(a, b impl.Record) bool { return a.Kind == b.Kind && slices.Equal(a.Nums, b.Nums) }

func noRecord(r impl.Record) bool { return r.Kind == 0 && len(r.Nums) == 0 }

// looseNumber takes groups as they come, needless or too many.
func looseNumber(b []byte) (x int, size int, whole bool) {
	for size < len(b) && size < 9 {
		x |= int(b[size]&127) << (7 * size)
		size++
		if b[size-1] < 128 {
			return x, size, true
		}
	}
	return x, size, false
}

// likeliest reads b loosely and fills up what is missing: b is the beginning of some frame, or one, just if it is that of this record.
func likeliest(b []byte) impl.Record {
	if len(b) == 0 {
		return impl.Record{}
	}
	r := impl.Record{Kind: int(b[0])}
	if len(b) == 1 {
		return r
	}
	rest := b[2:]
	for range b[1] {
		x, size, whole := looseNumber(rest)
		if !whole && size > 0 {
			x |= 1 << (7 * size)
		}
		r.Nums = append(r.Nums, x)
		rest = rest[size:]
	}
	return r
}

// scanBy is ScanFrames by the document's words: what is read must be what was written.
func scanBy(b []byte) ([]impl.Record, int, int) {
	list, size := []impl.Record{}, 0
	for size < len(b) {
		r := likeliest(b[size:])
		if !impl.RecordOk(r) {
			return list, size, impl.TailBent
		}
		frame := frameBytes(r)
		switch {
		case bytes.HasPrefix(b[size:], frame):
			list = append(list, r)
			size += len(frame)
		case bytes.HasPrefix(frame, b[size:]):
			return list, size, impl.TailTorn
		default:
			return list, size, impl.TailBent
		}
	}
	return list, size, impl.TailNone
}

func checkScan(t *testing.T, b []byte) {
	t.Helper()
	list, size, tail := impl.ScanFrames(b)
	wantList, wantSize, wantTail := scanBy(b)
	if !slices.EqualFunc(list, wantList, sameAs) || size != wantSize || tail != wantTail {
		t.Errorf("ScanFrames(%v) = %v, %d, %d, want %v, %d, %d", b, list, size, tail, wantList, wantSize, wantTail)
	}
}

func wantTail(t *testing.T, b []byte, want int) {
	t.Helper()
	if list, size, tail := impl.ScanFrames(b); len(list) != 0 || size != 0 || tail != want {
		t.Errorf("ScanFrames(%v) = %v, %d, %d, want none, 0, %d", b, list, size, tail, want)
	}
	if r, next := impl.TakeFrame(b, 0); !noRecord(r) || next != -1 {
		t.Errorf("TakeFrame(%v, 0) = %v, %d", b, r, next)
	}
}

func TestRecordLimits(t *testing.T) {
	if impl.MaxNumber != 1<<40-1 || impl.TailNone != 0 || impl.TailTorn != 1 || impl.TailBent != 2 {
		t.Errorf("MaxNumber %d, TailNone %d, TailTorn %d, TailBent %d", impl.MaxNumber, impl.TailNone, impl.TailTorn, impl.TailBent)
	}
}

func TestRecordOk(t *testing.T) {
	for _, r := range goodRecords() {
		if !impl.RecordOk(r) {
			t.Errorf("%v: not RecordOk", r)
		}
	}
	for name, r := range badRecords() {
		if impl.RecordOk(r) {
			t.Errorf("%s: RecordOk", name)
		}
	}
	for _, x := range edgeNumbers() {
		if !impl.RecordOk(impl.Record{Kind: 4, Nums: []int{1, x}}) {
			t.Errorf("with %d: not RecordOk", x)
		}
	}
	for _, x := range noNumbers() {
		if impl.RecordOk(impl.Record{Kind: 4, Nums: []int{1, x}}) {
			t.Errorf("with %d: RecordOk", x)
		}
	}
}

func TestPutNum(t *testing.T) {
	for _, c := range []struct {
		x    int
		want []byte
	}{
		{0, []byte{0}},
		{1, []byte{1}},
		{127, []byte{127}},
		{128, []byte{128, 1}},
		{300, []byte{172, 2}},
		{16383, []byte{255, 127}},
		{16384, []byte{128, 128, 1}},
		{1 << 35, []byte{128, 128, 128, 128, 128, 1}},
		{most, []byte{255, 255, 255, 255, 255, 31}},
	} {
		if got := impl.PutNum(c.x); !slices.Equal(got, c.want) {
			t.Errorf("PutNum(%d) = %v, want %v", c.x, got, c.want)
		}
	}
	for _, x := range edgeNumbers() {
		if got := impl.PutNum(x); !slices.Equal(got, numBytes(x)) {
			t.Errorf("PutNum(%d) = %v", x, got)
		}
	}
	for _, x := range noNumbers() {
		if got := impl.PutNum(x); len(got) != 0 {
			t.Errorf("PutNum(%d) = %v", x, got)
		}
	}
}

func TestNumbersAreReadAsTheyWereWritten(t *testing.T) {
	chance := rand.New(rand.NewSource(3))
	list := edgeNumbers()
	for i := range 5000 {
		list = append(list, i, chance.Intn(most)>>chance.Intn(40))
	}
	for _, x := range list {
		put := numBytes(x)
		b := slices.Concat([]byte{128, 0, 255}, put, []byte{0, 255})
		if got, next := impl.TakeNum(b, 3); got != x || next != 3+len(put) {
			t.Errorf("TakeNum of %d = %d, %d", x, got, next)
		}
		for cut := range put {
			if got, next := impl.TakeNum(put[:cut], 0); got != 0 || next != -1 {
				t.Errorf("TakeNum of %d, cut at %d = %d, %d", x, cut, got, next)
			}
		}
	}
}

func TestTakeNumAtItsPlaces(t *testing.T) {
	b := []byte{172, 2, 7}
	for _, c := range []struct{ at, x, next int }{
		{0, 300, 2}, {1, 2, 2}, {2, 7, 3},
		{3, 0, -1}, {4, 0, -1}, {-1, 0, -1}, {-3, 0, -1}, {math.MaxInt, 0, -1}, {math.MinInt, 0, -1},
	} {
		if x, next := impl.TakeNum(b, c.at); x != c.x || next != c.next {
			t.Errorf("TakeNum at %d = %d, %d, want %d, %d", c.at, x, next, c.x, c.next)
		}
	}
	for _, at := range []int{-1, 0, 1} {
		if x, next := impl.TakeNum(nil, at); x != 0 || next != -1 {
			t.Errorf("TakeNum of nothing at %d = %d, %d", at, x, next)
		}
	}
	// What stands behind the end of a slice is none of its bytes.
	if x, next := impl.TakeNum(b[:1], 0); x != 0 || next != -1 {
		t.Errorf("TakeNum looks behind the end: %d, %d", x, next)
	}
}

func TestTakeNumRefuses(t *testing.T) {
	for name, b := range map[string][]byte{
		"a needless byte behind 0":         {128, 0},
		"a needless byte behind 1":         {129, 0},
		"a needless byte behind 300":       {172, 130, 0},
		"two needless bytes":               {129, 128, 0},
		"needless bytes up to the sixth":   {129, 128, 128, 128, 128, 0},
		"needless bytes beyond it":         {129, 128, 128, 128, 128, 128, 0},
		"one above MaxNumber":              {128, 128, 128, 128, 128, 32},
		"six groups, all full":             {255, 255, 255, 255, 255, 127},
		"seven groups":                     {128, 128, 128, 128, 128, 128, 1},
		"MaxNumber and a needless byte":    {255, 255, 255, 255, 255, 159, 0},
		"nine groups and a bit beyond 64":  {128, 128, 128, 128, 128, 128, 128, 128, 128, 2},
		"groups that turn over to a small": {133, 128, 128, 128, 128, 128, 128, 128, 128, 128, 128, 1},
		"groups without an end":            {128, 128, 128},
		"many groups without an end":       bytes.Repeat([]byte{255}, 40),
	} {
		if x, next := impl.TakeNum(b, 0); x != 0 || next != -1 {
			t.Errorf("%s: TakeNum = %d, %d", name, x, next)
		}
		if x, next := impl.TakeNum(append([]byte{5}, b...), 1); x != 0 || next != -1 {
			t.Errorf("%s: TakeNum at 1 = %d, %d", name, x, next)
		}
	}
}

func TestSumOf(t *testing.T) {
	for _, c := range []struct {
		b    []byte
		want int
	}{
		{nil, 1},
		{[]byte{}, 1},
		{[]byte{0}, 132},
		{[]byte{4}, 136},
		{[]byte{255}, 387},
		{[]byte{4, 1}, 17818},
		{[]byte{4, 1, 5}, 40929},
		{[]byte{5, 1, 4}, 40929 + 131*131 - 1},
		{[]byte{0, 0}, 17293},
	} {
		if got := impl.SumOf(c.b); got != c.want {
			t.Errorf("SumOf(%v) = %d, want %d", c.b, got, c.want)
		}
	}
	chance := rand.New(rand.NewSource(5))
	b := make([]byte, 3000)
	chance.Read(b)
	for n := range len(b) {
		if got := impl.SumOf(b[:n]); got != sumBy(b[:n]) || got < 0 || got > 65520 {
			t.Errorf("SumOf of %d bytes = %d, want %d", n, got, sumBy(b[:n]))
		}
	}
}

func TestFrameRecord(t *testing.T) {
	if got := impl.FrameRecord(impl.Record{Kind: 4, Nums: []int{5}}); !slices.Equal(got, []byte{4, 1, 5, 159, 225}) {
		t.Errorf("of 4 with 5: %v", got)
	}
	if got := impl.FrameRecord(impl.Record{}); !slices.Equal(got, []byte{0, 0, 67, 141}) {
		t.Errorf("of the zero value: %v", got)
	}
	for _, r := range goodRecords() {
		want := frameBytes(r)
		if got, size := impl.FrameRecord(r), impl.FrameSize(r); !slices.Equal(got, want) || size != len(want) {
			t.Errorf("FrameRecord(%v) = %v, FrameSize %d, want %v", r, got, size, want)
		}
	}
	if size := impl.FrameSize(impl.Record{Kind: 99, Nums: manyNums(12, most)}); size != 76 {
		t.Errorf("FrameSize of the longest: %d", size)
	}
	for name, r := range badRecords() {
		if got, size := impl.FrameRecord(r), impl.FrameSize(r); len(got) != 0 || size != -1 {
			t.Errorf("%s: FrameRecord = %v, FrameSize %d", name, got, size)
		}
	}
	for _, x := range noNumbers() {
		r := impl.Record{Kind: 4, Nums: []int{1, x}}
		if got, size := impl.FrameRecord(r), impl.FrameSize(r); len(got) != 0 || size != -1 {
			t.Errorf("with %d: FrameRecord = %v, FrameSize %d", x, got, size)
		}
	}
}

func TestFramesAreReadAsTheyWereMade(t *testing.T) {
	for _, r := range goodRecords() {
		frame := impl.FrameRecord(r)
		b := slices.Concat([]byte{100, 255}, frame, []byte{200})
		if got, next := impl.TakeFrame(b, 2); !sameAs(got, r) || next != 2+len(frame) {
			t.Errorf("TakeFrame of %v = %v, %d", r, got, next)
		}
		list, size, tail := impl.ScanFrames(frame)
		if len(list) != 1 || !sameAs(list[0], r) || size != len(frame) || tail != impl.TailNone {
			t.Errorf("ScanFrames of %v = %v, %d, %d", r, list, size, tail)
		}
	}
}

func TestTakeFrameAtItsPlaces(t *testing.T) {
	r := impl.Record{Kind: 4, Nums: []int{300}}
	b := frameBytes(r)
	for _, at := range []int{-1, -6, len(b), len(b) + 1, math.MaxInt, math.MinInt} {
		if got, next := impl.TakeFrame(b, at); !noRecord(got) || next != -1 {
			t.Errorf("TakeFrame at %d = %v, %d", at, got, next)
		}
	}
	for _, at := range []int{-1, 0, 1} {
		if got, next := impl.TakeFrame(nil, at); !noRecord(got) || next != -1 {
			t.Errorf("TakeFrame of nothing at %d = %v, %d", at, got, next)
		}
	}
	for cut := range b {
		if got, next := impl.TakeFrame(b[:cut], 0); !noRecord(got) || next != -1 {
			t.Errorf("TakeFrame, cut at %d = %v, %d", cut, got, next)
		}
	}
	// The sum is that of the frame alone, not of what stands ahead of it.
	two := slices.Concat(b, b)
	if got, next := impl.TakeFrame(two, len(b)); !sameAs(got, r) || next != len(two) {
		t.Errorf("TakeFrame of the second = %v, %d", got, next)
	}
}

func TestFramesCutAnywhereAreTorn(t *testing.T) {
	list := goodRecords()
	all := joined(list)
	ends := []int{0}
	for _, r := range list {
		ends = append(ends, ends[len(ends)-1]+len(frameBytes(r)))
	}
	whole := 0
	for cut := range len(all) + 1 {
		if whole+1 < len(ends) && ends[whole+1] == cut {
			whole++
		}
		want := impl.TailTorn
		if ends[whole] == cut {
			want = impl.TailNone
		}
		got, size, tail := impl.ScanFrames(all[:cut])
		if !slices.EqualFunc(got, list[:whole], sameAs) || size != ends[whole] || tail != want {
			t.Errorf("cut at %d: %d records, %d bytes, tail %d, want %d, %d, %d", cut, len(got), size, tail, whole, ends[whole], want)
		}
	}
	if whole != len(list) {
		t.Errorf("only %d of %d were looked at", whole, len(list))
	}
}

func TestNothingHasNoTail(t *testing.T) {
	wantTail(t, nil, impl.TailNone)
	wantTail(t, []byte{}, impl.TailNone)
}

func TestBeginningsOfFramesAreTorn(t *testing.T) {
	for _, b := range [][]byte{
		{0}, {99},
		{0, 0}, {99, 12},
		{0, 0, 67},
		{4, 1, 5}, {4, 1, 5, 159},
		{4, 1, 128}, {4, 1, 255, 255, 255, 255, 255},
		{4, 1, 128, 128, 128, 128, 128},
		{4, 2, 5}, {4, 2, 0, 0},
		sealed(4, 1, 5)[:4],
		frameBytes(impl.Record{Kind: 99, Nums: manyNums(12, most)})[:75],
	} {
		wantTail(t, b, impl.TailTorn)
		behind := slices.Concat(sealed(7, 0), b)
		if list, size, tail := impl.ScanFrames(behind); len(list) != 1 || size != 4 || tail != impl.TailTorn {
			t.Errorf("ScanFrames(%v) = %v, %d, %d", behind, list, size, tail)
		}
	}
}

// What no frame begins with is bent, however short: more bytes would not make it whole.
func TestBentFrames(t *testing.T) {
	for name, b := range map[string][]byte{
		"Kind 100":                             {100},
		"Kind 255":                             {255},
		"Kind 100, sealed":                     sealed(100, 0),
		"13 numbers, cut":                      {4, 13},
		"255 numbers, cut":                     {4, 255},
		"13 numbers, sealed":                   sealed(4, 13, 1, 1, 1, 1, 1, 1, 1, 1, 1, 1, 1, 1, 1),
		"a needless byte, cut":                 {4, 1, 129, 0},
		"a needless byte, sealed":              sealed(4, 1, 129, 0),
		"a needless byte behind 0, sealed":     sealed(4, 1, 128, 0),
		"a needless byte in the second number": sealed(4, 2, 1, 172, 130, 0),
		"a number above MaxNumber, cut":        {4, 1, 128, 128, 128, 128, 128, 32},
		"a number above MaxNumber, sealed":     sealed(4, 1, 128, 128, 128, 128, 128, 32),
		"a sixth group with more behind it":    {4, 1, 128, 128, 128, 128, 128, 129},
		"a number of seven groups":             sealed(4, 1, 128, 128, 128, 128, 128, 129, 1),
		"the sum's greater byte wrong, cut":    {4, 1, 5, 0},
		"the sum's greater byte wrong":         {4, 1, 5, 158, 225},
		"the sum's lesser byte wrong":          {4, 1, 5, 159, 226},
		"the sum's bytes changed over":         {4, 1, 5, 225, 159},
		"another Kind":                         {5, 1, 5, 159, 225},
		"another number":                       {4, 1, 6, 159, 225},
		"fewer numbers":                        {4, 0, 5, 159, 225},
		"the sum's bytes 0":                    {0, 0, 0, 0},
	} {
		t.Run(name, func(t *testing.T) {
			wantTail(t, b, impl.TailBent)
			more := slices.Concat(b, bytes.Repeat(sealed(7, 0), 5))
			wantTail(t, more, impl.TailBent)
			first := sealed(7, 1, 3)
			behind := slices.Concat(first, more)
			if list, size, tail := impl.ScanFrames(behind); len(list) != 1 || !sameAs(list[0], impl.Record{Kind: 7, Nums: []int{3}}) || size != len(first) || tail != impl.TailBent {
				t.Errorf("ScanFrames(%v) = %v, %d, %d", behind, list, size, tail)
			}
		})
	}
}

// A frame with one byte changed is never read as the one that it was, and never as one that was not written so.
func TestFramesBentWithin(t *testing.T) {
	for _, r := range goodRecords() {
		frame := frameBytes(r)
		for at := range frame {
			for x := range 256 {
				b := slices.Clone(frame)
				b[at] = byte(x)
				checkScan(t, b)
				got, next := impl.TakeFrame(b, 0)
				if byte(x) != frame[at] && next == len(frame) && sameAs(got, r) {
					t.Errorf("%v is still read with %d at %d", r, x, at)
				}
				if next != -1 && !slices.Equal(frameBytes(got), b[:next]) {
					t.Errorf("TakeFrame(%v) = %v, %d: not its frame", b, got, next)
				}
			}
		}
	}
}

func TestAllShortBytes(t *testing.T) {
	for a := range 256 {
		checkScan(t, []byte{byte(a)})
		for b := range 256 {
			checkScan(t, []byte{byte(a), byte(b)})
		}
	}
	for _, kind := range []byte{0, 1, 42, 99, 100, 255} {
		for a := range 256 {
			for b := range 256 {
				checkScan(t, []byte{kind, byte(a), byte(b)})
			}
		}
	}
	for a := range 256 {
		for b := range 256 {
			checkScan(t, []byte{3, 0, byte(a), byte(b)})
			checkScan(t, []byte{3, 1, byte(a), byte(b)})
			checkScan(t, []byte{3, 1, 128, 128, 128, 128, byte(a), byte(b)})
		}
	}
}

func chanceRecord(chance *rand.Rand) impl.Record {
	r := impl.Record{Kind: chance.Intn(100)}
	for range chance.Intn(13) {
		r.Nums = append(r.Nums, chance.Intn(most+1)>>chance.Intn(41))
	}
	return r
}

func TestLongRunsOfFrames(t *testing.T) {
	chance := rand.New(rand.NewSource(8))
	for range 2000 {
		list := []impl.Record{}
		for range chance.Intn(6) {
			list = append(list, chanceRecord(chance))
		}
		b := joined(list)
		got, size, tail := impl.ScanFrames(b)
		if !slices.EqualFunc(got, list, sameAs) || size != len(b) || tail != impl.TailNone {
			t.Errorf("ScanFrames(%v) = %v, %d, %d", b, got, size, tail)
		}
		for range 20 {
			bent := slices.Clone(b[:chance.Intn(len(b)+1)])
			for range chance.Intn(3) {
				if len(bent) > 0 {
					bent[chance.Intn(len(bent))] = byte(chance.Intn(256))
				}
			}
			checkScan(t, bent)
		}
	}
}

func TestSameRecord(t *testing.T) {
	list := goodRecords()
	for _, a := range list {
		for _, b := range list {
			if got := impl.SameRecord(a, b); got != sameAs(a, b) {
				t.Errorf("SameRecord(%v, %v) = %v", a, b, got)
			}
		}
	}
	if !impl.SameRecord(impl.Record{Kind: 3}, impl.Record{Kind: 3, Nums: []int{}}) {
		t.Error("nil and an empty list are not the same")
	}
	base := impl.Record{Kind: 3, Nums: []int{1, 2}}
	for _, other := range []impl.Record{
		{Kind: 4, Nums: []int{1, 2}}, {Kind: 3, Nums: []int{2, 1}}, {Kind: 3, Nums: []int{1}},
		{Kind: 3, Nums: []int{1, 2, 0}}, {Kind: 3, Nums: []int{1, 3}}, {Kind: 3},
	} {
		if impl.SameRecord(base, other) || impl.SameRecord(other, base) {
			t.Errorf("%v is taken for %v", base, other)
		}
	}
	for name, r := range badRecords() {
		if impl.SameRecord(r, r) || impl.SameRecord(r, base) || impl.SameRecord(base, r) {
			t.Errorf("%s: SameRecord", name)
		}
	}
}

func TestBytesAreNotWrittenIntoNorShared(t *testing.T) {
	list := goodRecords()
	roomy := append(joined(list), bytes.Repeat([]byte{77}, 50)...)
	n := len(roomy) - 50
	was := slices.Clone(roomy)
	got, _, _ := impl.ScanFrames(roomy[:n])
	first, _ := impl.TakeFrame(roomy[:n], 0)
	impl.TakeNum(roomy[:n], 2)
	impl.SumOf(roomy[:n])
	if !slices.Equal(roomy, was) {
		t.Error("bytes that were handed in were written into")
	}
	clear(roomy)
	if !slices.EqualFunc(got, list, sameAs) || !sameAs(first, list[0]) {
		t.Error("an answer shares memory with the bytes")
	}
	for i := range got {
		got[i].Nums = append(got[i].Nums, 5)
		for k := range got[i].Nums {
			got[i].Nums[k] = -1
		}
		for k, other := range got {
			if k > i && !sameAs(other, list[k]) {
				t.Errorf("the numbers of %d and %d share memory", i, k)
			}
		}
	}
}

func TestRecordsAreNotWrittenInto(t *testing.T) {
	nums := []int{1, 300, most, 77, 77}
	r := impl.Record{Kind: 4, Nums: nums[:3]}
	frame := impl.FrameRecord(r)
	impl.RecordOk(r)
	impl.FrameSize(r)
	impl.SameRecord(r, r)
	if !slices.Equal(nums, []int{1, 300, most, 77, 77}) {
		t.Errorf("the numbers are now %v", nums)
	}
	again := impl.FrameRecord(r)
	clear(frame)
	if !slices.Equal(again, frameBytes(r)) {
		t.Error("two answers share memory")
	}
}
