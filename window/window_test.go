package window_test

import (
	"math"
	"math/rand"
	"testing"

	"louver/api"
	"louver/window"
)

var (
	none          = api.Fault{}
	connFlow      = api.Fault{Scope: api.ConnFault, Code: api.FlowError}
	streamFlow    = api.Fault{Scope: api.StreamFault, Code: api.FlowError}
	internalFault = api.Fault{Scope: api.ConnFault, Code: api.InternalError}
)

const (
	least = -2147483648
	most  = 2147483647
)

// flow is the fault of a window that grows above the most, or of a meter by which too much comes.
func flow(stream bool) api.Fault {
	if stream {
		return streamFlow
	}
	return connFlow
}

// lefts are windows at which something changes.
var lefts = []int64{
	math.MinInt64, math.MinInt64 + 1, -1 << 40, -1<<32 - 1, -1 << 32, -1<<32 + 1, least - 1, least, least + 1, -65536, -2, -1,
	0, 1, 2, 65535, most - 65535, most - 2, most - 1, most, most + 1, 1<<32 - 1, 1 << 32, 1<<32 + 1, 1 << 40, math.MaxInt64 - 1, math.MaxInt64,
}

// counts are numbers of bytes at which something changes.
var counts = []int{
	math.MinInt, math.MinInt + 1, -1<<32 - 1, -1 << 32, -1<<32 + 1, least, least + 1, -2, -1,
	0, 1, 2, 3, 65534, 65535, 65536, 1 << 30, most - 1, most, most + 1, 1<<32 - 1, 1 << 32, 1<<32 + 1, 1<<32 + 65535, math.MaxInt - 1, math.MaxInt,
}

// sizes are sizes, growths and first windows at which something changes.
var sizes = []uint32{0, 1, 2, 3, 4, 5, 9, 10, 65534, 65535, 65536, 1 << 30, 1<<30 + 1, most - 1, most, most + 1, most + 2, 1<<32 - 2, 1<<32 - 1}

// twin is a window and a model of it.
type twin struct {
	t      *testing.T
	w      *window.Window
	left   int64
	stream bool
}

func newTwin(t *testing.T, left int64, stream bool) *twin {
	t.Helper()
	x := &twin{t: t, w: window.New(left, stream), left: left, stream: stream}
	if left < least {
		x.left = least
	}
	if left > most {
		x.left = most
	}
	x.check("New")
	return x
}

func (x *twin) check(call string) {
	for range 2 {
		if got := x.w.Left(); got != x.left {
			x.t.Helper()
			x.t.Fatalf("behind %s: %d, wanted %d", call, got, x.left)
		}
	}
}

func (x *twin) take(n int) {
	before := x.left
	want := n == 0
	if n > 0 && x.left >= int64(n) {
		want = true
		x.left -= int64(n)
	}
	if got := x.w.Take(n); got != want {
		x.t.Fatalf("%d: Take(%d): %v", before, n, got)
	}
	x.check("Take")
}

// move is what is wrong, if a window would be that great; it is that, if nothing is.
func (x *twin) move(left int64, fault api.Fault) api.Fault {
	if left > most {
		return fault
	}
	x.left = left
	if left < least {
		x.left = least
	}
	return none
}

func (x *twin) grow(n uint32) {
	before := x.left
	want := x.move(x.left+int64(n), flow(x.stream))
	if got := x.w.Grow(n); got != want {
		x.t.Fatalf("%d: Grow(%d): %v, wanted %v", before, n, got, want)
	}
	x.check("Grow")
}

func (x *twin) shift(from, to uint32) {
	before := x.left
	want := x.move(x.left+int64(to)-int64(from), connFlow)
	if got := x.w.Shift(from, to); got != want {
		x.t.Fatalf("%d: Shift(%d, %d): %v, wanted %v", before, from, to, got, want)
	}
	x.check("Shift")
}

func TestP10_1New(t *testing.T) {
	for _, x := range []struct{ left, want int64 }{
		{0, 0}, {1, 1}, {-1, -1}, {65535, 65535},
		{most - 1, 2147483646}, {most, 2147483647}, {most + 1, 2147483647}, {1<<32 + 5, 2147483647}, {math.MaxInt64, 2147483647},
		{least + 1, -2147483647}, {least, -2147483648}, {least - 1, -2147483648}, {-1<<32 - 5, -2147483648}, {math.MinInt64, -2147483648},
	} {
		for _, stream := range []bool{false, true} {
			if got := window.New(x.left, stream).Left(); got != x.want {
				t.Error(x.left, stream, got)
			}
		}
	}
}

func TestP10_1Take(t *testing.T) {
	for _, x := range []struct {
		left int64
		n    int
		ok   bool
		want int64
	}{
		{10, 0, true, 10}, {10, 1, true, 9}, {10, 9, true, 1}, {10, 10, true, 0}, {10, 11, false, 10}, {10, -1, false, 10}, {10, -10, false, 10},
		{10, 1 << 32, false, 10}, {10, 1<<32 + 1, false, 10}, {10, math.MaxInt, false, 10}, {10, math.MinInt, false, 10}, {10, math.MinInt + 1, false, 10},
		{1, 1, true, 0}, {1, 2, false, 1}, {0, 0, true, 0}, {0, 1, false, 0}, {0, -1, false, 0},
		{-1, 0, true, -1}, {-1, 1, false, -1}, {-1, -1, false, -1}, {-5, -3, false, -5}, {-5, -6, false, -5}, {-5, 5, false, -5},
		{least, 0, true, least}, {least, 1, false, least}, {least, least, false, least}, {least, math.MinInt, false, least}, {least, math.MaxInt, false, least},
		{most, most, true, 0}, {most, most + 1, false, most}, {most, most - 1, true, 1}, {math.MaxInt64, most + 1, false, most},
	} {
		for _, stream := range []bool{false, true} {
			w := window.New(x.left, stream)
			if ok := w.Take(x.n); ok != x.ok || w.Left() != x.want {
				t.Error(x.left, x.n, ok, w.Left())
			}
		}
	}
}

func TestP10_1Grow(t *testing.T) {
	for _, x := range []struct {
		left int64
		n    uint32
		ok   bool
		want int64
	}{
		{0, 0, true, 0}, {0, 1, true, 1}, {10, 5, true, 15}, {-5, 3, true, -2}, {-5, 5, true, 0}, {-5, 6, true, 1},
		{0, most, true, most}, {0, most + 1, false, 0}, {1, most, false, 1}, {1, most - 1, true, most}, {-1, most + 1, true, most}, {-1, most + 2, false, -1},
		{most, 0, true, most}, {most, 1, false, most}, {most - 1, 1, true, most}, {most - 1, 2, false, most - 1}, {most, 1<<32 - 1, false, most},
		{least, 0, true, least}, {least, 1, true, least + 1}, {least, most, true, -1}, {least, most + 1, true, 0}, {least, 1<<32 - 1, true, most}, {least + 1, 1<<32 - 1, false, least + 1},
	} {
		for _, stream := range []bool{false, true} {
			want := none
			if !x.ok {
				want = flow(stream)
			}
			w := window.New(x.left, stream)
			if wrong := w.Grow(x.n); wrong != want || w.Left() != x.want {
				t.Error(x.left, stream, x.n, wrong, w.Left())
			}
		}
	}
}

// The fault of a shift is the connection's, that of a stream's window, too.
func TestP10_1Shift(t *testing.T) {
	for _, x := range []struct {
		left     int64
		from, to uint32
		ok       bool
		want     int64
	}{
		{10, 10, 4, true, 4}, {4, 10, 4, true, -2}, {-2, 4, 10, true, 4}, {7, 5, 5, true, 7}, {0, 0, 0, true, 0}, {-7, 1<<32 - 1, 1<<32 - 1, true, -7},
		{65535, 65535, most, true, most}, {65536, 65535, most, false, 65536}, {65534, 65535, most, true, most - 1}, {0, 0, most, true, most}, {1, 0, most, false, 1},
		{0, 0, most + 1, false, 0}, {-1, 0, most + 1, true, most}, {0, 0, 1<<32 - 1, false, 0}, {least, 0, 1<<32 - 1, true, most}, {least + 1, 0, 1<<32 - 1, false, least + 1},
		{0, most, 0, true, -most}, {-1, most, 0, true, least}, {-2, most, 0, true, least}, {least, 1, 0, true, least}, {least, most, 0, true, least},
		{0, most + 1, 0, true, least}, {1, most + 1, 0, true, least + 1}, {0, 1<<32 - 1, 0, true, least}, {most, 1<<32 - 1, 0, true, least}, {most - 1, 1<<32 - 1, 0, true, least},
		{most, 1, 0, true, most - 1}, {most, 0, 1, false, most}, {most, 5, 6, false, most}, {most, most, most, true, most}, {least, 7, 7, true, least}, {least, 0, 1, true, least + 1},
	} {
		for _, stream := range []bool{false, true} {
			want := none
			if !x.ok {
				want = connFlow
			}
			w := window.New(x.left, stream)
			if wrong := w.Shift(x.from, x.to); wrong != want || w.Left() != x.want {
				t.Error(x.left, stream, x.from, x.to, wrong, w.Left())
			}
		}
	}
}

// What would be below the least window is that, and goes on from there.
func TestP10_1ShiftBelow(t *testing.T) {
	w := window.New(-10, true)
	for range 3 {
		if wrong := w.Shift(most, 0); wrong != none || w.Left() != least {
			t.Fatal(wrong, w.Left())
		}
	}
	if wrong := w.Shift(0, most); wrong != none || w.Left() != -1 {
		t.Error(wrong, w.Left())
	}
}

// A fault changes nothing: all goes on as if that call had not been.
func TestP10_1BehindFaults(t *testing.T) {
	for _, stream := range []bool{false, true} {
		w := window.New(5, stream)
		for range 3 {
			if w.Take(6) || w.Grow(most-4) != flow(stream) || w.Shift(0, most-4) != connFlow || w.Left() != 5 {
				t.Fatal(w.Left())
			}
		}
		if w.Grow(most-5) != none || w.Left() != most || !w.Take(most) || w.Shift(3, 1) != none || w.Left() != -2 || w.Grow(2) != none || w.Left() != 0 {
			t.Error(stream, w.Left())
		}
	}
}

func TestP10_1WindowEdges(t *testing.T) {
	for _, left := range lefts {
		for _, stream := range []bool{false, true} {
			for _, n := range counts {
				newTwin(t, left, stream).take(n)
			}
			for _, from := range sizes {
				newTwin(t, left, stream).grow(from)
				for _, to := range sizes {
					newTwin(t, left, stream).shift(from, to)
				}
			}
		}
	}
}

// All rows of up to five calls of a window.
func TestP10_1WindowRows(t *testing.T) {
	calls := []func(*twin){
		func(x *twin) { x.take(0) },
		func(x *twin) { x.take(1) },
		func(x *twin) { x.take(3) },
		func(x *twin) { x.take(-2) },
		func(x *twin) { x.take(most) },
		func(x *twin) { x.grow(0) },
		func(x *twin) { x.grow(2) },
		func(x *twin) { x.grow(most) },
		func(x *twin) { x.shift(5, 3) },
		func(x *twin) { x.shift(3, 7) },
		func(x *twin) { x.shift(most, 0) },
		func(x *twin) { x.shift(0, most) },
	}
	rows := 1
	for range 5 {
		rows *= len(calls)
	}
	for _, left := range []int64{2, -1, most - 1, least + 1} {
		for row := range rows {
			x := newTwin(t, left, row%2 == 0)
			for range 5 {
				calls[row%len(calls)](x)
				row /= len(calls)
			}
		}
	}
}

func TestP10_1WindowAny(t *testing.T) {
	r := rand.New(rand.NewSource(10))
	for range 3000 {
		x := newTwin(t, lefts[r.Intn(len(lefts))], r.Intn(2) == 0)
		for range 60 {
			switch r.Intn(6) {
			case 0:
				x.take(counts[r.Intn(len(counts))])
			case 1:
				x.take(int(r.Uint32() >> r.Intn(32)))
			case 2:
				x.grow(sizes[r.Intn(len(sizes))])
			case 3:
				x.grow(r.Uint32() >> r.Intn(32))
			case 4:
				x.shift(sizes[r.Intn(len(sizes))], sizes[r.Intn(len(sizes))])
			case 5:
				x.shift(r.Uint32()>>r.Intn(32), r.Uint32()>>r.Intn(32))
			}
		}
	}
}

// meterTwin is a meter and a model of it, which counts all bytes that ever came, were used up, and were told.
type meterTwin struct {
	t                *testing.T
	m                *window.Meter
	size             int64
	stream           bool
	came, used, told int64
}

func newMeterTwin(t *testing.T, size uint32, stream bool) *meterTwin {
	t.Helper()
	x := &meterTwin{t: t, m: window.Of(size, stream), size: int64(size), stream: stream}
	if x.size > most {
		x.size = most
	}
	x.check("Of", int64(size))
	return x
}

func (x *meterTwin) left() int64 { return x.size - x.came + x.told }

func (x *meterTwin) check(call string, n int64) {
	for range 2 {
		if x.m.Left() != x.left() || int64(x.m.Owed()) != x.came-x.used {
			x.t.Fatalf("size %d, behind %s(%d): %d left, %d owed, wanted %d, %d", x.size, call, n, x.m.Left(), x.m.Owed(), x.left(), x.came-x.used)
		}
	}
}

func (x *meterTwin) come(n int) {
	want := none
	if int64(n) > x.left() {
		want = flow(x.stream)
	} else if n > 0 {
		x.came += int64(n)
	}
	if got := x.m.Come(n); got != want {
		x.t.Fatalf("size %d: Come(%d): %v, wanted %v", x.size, n, got, want)
	}
	x.check("Come", int64(n))
}

func (x *meterTwin) use(n int) {
	if int64(n) > x.came-x.used {
		x.used = x.came
	} else if n > 0 {
		x.used += int64(n)
	}
	want := x.used - x.told
	if want == 0 || 2*want < x.size {
		want = 0
	}
	x.told += want
	if got := x.m.Use(n); int64(got) != want {
		x.t.Fatalf("size %d: Use(%d): %d, wanted %d", x.size, n, got, want)
	}
	x.check("Use", int64(n))
}

func TestP10_1Of(t *testing.T) {
	for _, x := range []struct {
		size uint32
		want int64
	}{
		{0, 0}, {1, 1}, {65535, 65535}, {most - 1, 2147483646}, {most, 2147483647}, {most + 1, 2147483647}, {1<<32 - 1, 2147483647},
	} {
		for _, stream := range []bool{false, true} {
			m := window.Of(x.size, stream)
			if m.Left() != x.want || m.Owed() != 0 || m.Use(1) != 0 {
				t.Error(x.size, m.Left(), m.Owed())
			}
			if wrong := m.Come(int(x.want) + 1); wrong != flow(stream) || m.Left() != x.want || m.Owed() != 0 {
				t.Error(x.size, wrong)
			}
			if wrong := m.Come(int(x.want)); wrong != none || m.Left() != 0 || int64(m.Owed()) != x.want {
				t.Error(x.size, wrong)
			}
		}
	}
}

// The chapter's example.
func TestP10_1MeterOfTen(t *testing.T) {
	m := window.Of(10, true)
	if m.Come(6) != none || m.Left() != 4 || m.Owed() != 6 {
		t.Error(m.Left(), m.Owed())
	}
	if m.Use(4) != 0 || m.Left() != 4 || m.Owed() != 2 {
		t.Error(m.Left(), m.Owed())
	}
	if m.Use(1) != 5 || m.Left() != 9 || m.Owed() != 1 {
		t.Error(m.Left(), m.Owed())
	}
	if m.Use(1) != 0 || m.Left() != 9 || m.Owed() != 0 {
		t.Error(m.Left(), m.Owed())
	}
}

// From how many bytes on it is told, for each size: those ahead are told with the one that makes it so many.
func TestP10_1MeterHalf(t *testing.T) {
	for _, x := range []struct {
		size uint32
		half int
	}{
		{1, 1}, {2, 1}, {3, 2}, {4, 2}, {5, 3}, {6, 3}, {7, 4}, {9, 5}, {10, 5}, {65534, 32767}, {65535, 32768}, {65536, 32768},
		{most - 1, 1073741823}, {most, 1073741824}, {most + 1, 1073741824}, {1<<32 - 1, 1073741824},
	} {
		m := window.Of(x.size, false)
		all := int(m.Left())
		m.Come(all)
		for range 3 {
			if m.Use(x.half-1) != 0 || m.Use(0) != 0 || m.Use(-1) != 0 || m.Left() != 0 || m.Owed() != all-x.half+1 {
				t.Error(x.size, m.Left(), m.Owed())
			}
			if got := m.Use(1); int(got) != x.half || int(m.Left()) != x.half || m.Owed() != all-x.half {
				t.Error(x.size, got, m.Left(), m.Owed())
			}
			if m.Use(0) != 0 || m.Come(x.half) != none || m.Left() != 0 {
				t.Error(x.size, m.Left())
			}
		}
		if got := m.Use(all); int(got) != all || int(m.Left()) != all || m.Owed() != 0 {
			t.Error(x.size, got, m.Left(), m.Owed())
		}
	}
}

// More than came, and less than none, isn't used up; nor does less than none come.
func TestP10_1MeterWrong(t *testing.T) {
	for _, n := range counts {
		if n >= 0 {
			continue
		}
		m := window.Of(4, true)
		if m.Come(n) != none || m.Left() != 4 || m.Owed() != 0 || m.Use(n) != 0 || m.Come(3) != none || m.Use(1) != 0 {
			t.Error(n, m.Left(), m.Owed())
		}
		if m.Come(n) != none || m.Use(n) != 0 || m.Left() != 1 || m.Owed() != 2 || m.Use(1) != 2 || m.Left() != 3 || m.Owed() != 1 {
			t.Error(n, m.Left(), m.Owed())
		}
	}
	for _, n := range []int{4, 5, 1 << 31, 1 << 32, 1<<32 + 1, math.MaxInt} {
		m := window.Of(10, true)
		m.Come(4)
		if m.Use(n) != 0 || m.Owed() != 0 || m.Left() != 6 || m.Use(n) != 0 || m.Owed() != 0 {
			t.Error(n, m.Left(), m.Owed())
		}
		m.Come(3)
		if m.Use(n) != 7 || m.Owed() != 0 || m.Left() != 10 || m.Use(n) != 0 || m.Left() != 10 {
			t.Error(n, m.Left(), m.Owed())
		}
	}
}

// More bytes than may come: none of them did, and the meter goes on.
func TestP10_1MeterBehindFaults(t *testing.T) {
	for _, stream := range []bool{false, true} {
		m := window.Of(9, stream)
		m.Come(4)
		m.Use(1)
		for _, n := range []int{6, 7, 9, 1 << 31, 1 << 32, 1<<32 + 1, math.MaxInt} {
			if wrong := m.Come(n); wrong != flow(stream) || m.Left() != 5 || m.Owed() != 3 {
				t.Error(stream, n, wrong, m.Left(), m.Owed())
			}
		}
		if m.Come(5) != none || m.Left() != 0 || m.Owed() != 8 || m.Come(0) != none || m.Come(1) != flow(stream) {
			t.Error(stream, m.Left(), m.Owed())
		}
		if m.Use(3) != 0 || m.Use(1) != 5 || m.Left() != 5 || m.Owed() != 4 {
			t.Error(stream, m.Left(), m.Owed())
		}
	}
}

func TestP10_1MeterEdges(t *testing.T) {
	for _, size := range sizes {
		for _, stream := range []bool{false, true} {
			for _, n := range counts {
				for _, k := range counts {
					x := newMeterTwin(t, size, stream)
					x.use(k)
					x.come(n)
					x.use(k)
					x.come(k)
					x.use(n)
					x.use(k)
				}
			}
		}
	}
}

// All rows of up to six calls of a meter.
func TestP10_1MeterRows(t *testing.T) {
	calls := []func(*meterTwin){
		func(x *meterTwin) { x.come(0) },
		func(x *meterTwin) { x.come(1) },
		func(x *meterTwin) { x.come(2) },
		func(x *meterTwin) { x.come(5) },
		func(x *meterTwin) { x.use(0) },
		func(x *meterTwin) { x.use(1) },
		func(x *meterTwin) { x.use(2) },
		func(x *meterTwin) { x.use(4) },
		func(x *meterTwin) { x.use(-1) },
	}
	rows := 1
	for range 6 {
		rows *= len(calls)
	}
	for size := range uint32(8) {
		for row := range rows {
			x := newMeterTwin(t, size, row%2 == 0)
			for range 6 {
				calls[row%len(calls)](x)
				row /= len(calls)
			}
		}
	}
}

func TestP10_1MeterAny(t *testing.T) {
	r := rand.New(rand.NewSource(11))
	for range 3000 {
		size := sizes[r.Intn(len(sizes))]
		if r.Intn(2) == 0 {
			size = r.Uint32() >> r.Intn(32)
		}
		x := newMeterTwin(t, size, r.Intn(2) == 0)
		for range 60 {
			switch r.Intn(4) {
			case 0:
				x.come(counts[r.Intn(len(counts))])
			case 1:
				x.come(int(r.Int63n(x.size+1) >> r.Intn(5)))
			case 2:
				x.use(counts[r.Intn(len(counts))])
			case 3:
				x.use(int(r.Int63n(x.size+1) >> r.Intn(5)))
			}
		}
	}
}

// What one window or meter is told, another one doesn't know.
func TestP10_1Apart(t *testing.T) {
	a, b := window.New(10, true), window.New(10, false)
	a.Take(3)
	b.Grow(5)
	if a.Left() != 7 || b.Left() != 15 || a.Grow(most) != streamFlow || b.Grow(most) != connFlow || window.New(10, true).Left() != 10 {
		t.Error(a.Left(), b.Left())
	}
	m, n := window.Of(10, true), window.Of(10, false)
	m.Come(6)
	m.Use(4)
	n.Come(9)
	n.Use(1)
	if m.Left() != 4 || m.Owed() != 2 || n.Left() != 1 || n.Owed() != 8 || m.Use(1) != 5 || n.Use(3) != 0 || m.Come(10) != streamFlow || n.Come(2) != connFlow {
		t.Error(m.Left(), m.Owed(), n.Left(), n.Owed())
	}
}

func TestP10_1NilWindow(t *testing.T) {
	var w *window.Window
	for range 2 {
		if w.Left() != 0 {
			t.Error(w.Left())
		}
		for _, n := range counts {
			if w.Take(n) {
				t.Error(n)
			}
		}
		for _, n := range sizes {
			if w.Grow(n) != internalFault || w.Shift(n, 0) != internalFault || w.Shift(0, n) != internalFault || w.Shift(n, n) != internalFault {
				t.Error(n, w.Grow(n), w.Shift(n, 0))
			}
		}
	}
}

func TestP10_1NilMeter(t *testing.T) {
	var m *window.Meter
	for range 2 {
		if m.Left() != 0 || m.Owed() != 0 {
			t.Error(m.Left(), m.Owed())
		}
		for _, n := range counts {
			if m.Come(n) != internalFault || m.Use(n) != 0 {
				t.Error(n, m.Come(n), m.Use(n))
			}
		}
	}
}

// ends are a sender's window and the other side's meter: what is sent comes at once, and what is told is heard at once.
type ends struct {
	t      *testing.T
	w      *window.Window
	m      *window.Meter
	stream bool
}

func newEnds(t *testing.T, size uint32, stream bool) *ends {
	x := &ends{t, window.New(int64(size), stream), window.Of(size, stream), stream}
	x.check()
	return x
}

func (x *ends) check() {
	if x.w.Left() != x.m.Left() {
		x.t.Fatalf("the window is %d, the meter's %d", x.w.Left(), x.m.Left())
	}
}

func (x *ends) send(n int) {
	took, wrong := x.w.Take(n), x.m.Come(n)
	if took && wrong != none || !took && n >= 0 && wrong != flow(x.stream) {
		x.t.Fatal(n, took, wrong)
	}
	x.check()
}

func (x *ends) use(n int) {
	if told := x.m.Use(n); told > 0 {
		if wrong := x.w.Grow(told); wrong != none {
			x.t.Fatal(told, wrong)
		}
	}
	x.check()
}

// All rows of up to six calls, of small sizes.
func TestP10_2Rows(t *testing.T) {
	for size := range uint32(7) {
		for row := range 1 << 18 {
			x := newEnds(t, size, row%2 == 0)
			for range 6 {
				n := row >> 1 & 3
				if row&1 == 0 {
					x.send(n)
				} else {
					x.use(n)
				}
				row >>= 3
			}
		}
	}
}

func TestP10_2Any(t *testing.T) {
	r := rand.New(rand.NewSource(12))
	for range 3000 {
		size := sizes[r.Intn(len(sizes))]
		if r.Intn(2) == 0 {
			size = r.Uint32() >> r.Intn(32)
		}
		x := newEnds(t, size, r.Intn(2) == 0)
		for range 60 {
			n := int(r.Int63n(int64(size)+1) >> r.Intn(5))
			switch r.Intn(8) {
			case 0:
				x.send(counts[r.Intn(len(counts))])
			case 1:
				x.use(counts[r.Intn(len(counts))])
			case 2, 3, 4:
				x.send(n)
			default:
				x.use(n)
			}
		}
	}
}

// A sender that takes all that it may never stands still, once all is used up: the whole size comes by again and again.
func TestP10_2Goes(t *testing.T) {
	for size := uint32(1); size < 200; size++ {
		x := newEnds(t, size, true)
		for sent := 0; sent < 20*int(size); {
			n := int(x.w.Left())
			if n < 1 {
				t.Fatal(size, sent)
			}
			x.send(n)
			sent += n
			for range n {
				x.use(1)
			}
			if x.m.Owed() != 0 {
				t.Fatal(size, x.m.Owed())
			}
		}
	}
}

// What is sent and what is told may be on its way for long: the sender still never sends more than may come, and both are the same, when all is there.
func TestP10_2OnTheWay(t *testing.T) {
	r := rand.New(rand.NewSource(13))
	for range 2000 {
		size := uint32(r.Intn(300))
		w, m := window.New(int64(size), true), window.Of(size, true)
		var sent []int
		var told []uint32
		come := func() {
			if wrong := m.Come(sent[0]); wrong != none {
				t.Fatal(size, sent[0], wrong)
			}
			sent = sent[1:]
		}
		hear := func() {
			if wrong := w.Grow(told[0]); wrong != none {
				t.Fatal(size, told[0], wrong)
			}
			told = told[1:]
		}
		for range 100 {
			switch n := r.Intn(int(size)/2 + 2); r.Intn(4) {
			case 0:
				if w.Take(n) {
					sent = append(sent, n)
				}
			case 1:
				if len(sent) > 0 {
					come()
				}
			case 2:
				if k := m.Use(n); k > 0 {
					told = append(told, k)
				}
			case 3:
				if len(told) > 0 {
					hear()
				}
			}
		}
		for len(sent) > 0 {
			come()
		}
		for len(told) > 0 {
			hear()
		}
		if w.Left() != m.Left() {
			t.Fatal(size, w.Left(), m.Left())
		}
	}
}
