package turns_test

import (
	"bytes"
	"math"
	"math/rand"
	"slices"
	"strconv"
	"testing"

	"louver/api"
	"louver/turns"
	"louver/window"
)

var (
	none          = api.Fault{}
	connFlow      = api.Fault{Scope: api.ConnFault, Code: api.FlowError}
	streamFlow    = api.Fault{Scope: api.StreamFault, Code: api.FlowError}
	internalFault = api.Fault{Scope: api.ConnFault, Code: api.InternalError}
)

const (
	least  = -2147483648
	most   = 2147483647
	plenty = 65535
)

// lefts are windows at which something changes, and what they are then.
var lefts = []struct{ left, want int64 }{
	{0, 0}, {1, 1}, {-1, -1}, {65535, 65535},
	{most - 1, 2147483646}, {most, 2147483647}, {most + 1, 2147483647}, {1<<32 + 5, 2147483647}, {math.MaxInt64, 2147483647},
	{least + 1, -2147483647}, {least, -2147483648}, {least - 1, -2147483648}, {-1<<32 - 5, -2147483648}, {math.MinInt64, -2147483648},
}

// sent is what Next answers.
type sent struct {
	stream uint32
	bytes  string
	end    bool
	ok     bool
}

var nothing = sent{}

func next(r *turns.Ring, most int) sent {
	stream, b, end, ok := r.Next(most)
	return sent{stream, string(b), end, ok}
}

func part(stream uint32, text string) sent { return sent{stream, text, false, true} }

func last(stream uint32, text string) sent { return sent{stream, text, true, true} }

// open is a ring of streams, all with windows of so many.
func open(t *testing.T, left int64, streams ...uint32) *turns.Ring {
	t.Helper()
	r := turns.New(left)
	for _, s := range streams {
		if !r.Open(s, left) {
			t.Fatal(s)
		}
	}
	return r
}

// row is a ring of streams, each with as many bytes, and without an end.
func row(t *testing.T, n int, streams ...uint32) *turns.Ring {
	t.Helper()
	r := open(t, plenty, streams...)
	for _, s := range streams {
		put(t, r, s, signs(n), false)
	}
	return r
}

func put(t *testing.T, r *turns.Ring, stream uint32, text string, end bool) {
	t.Helper()
	if !r.Put(stream, []byte(text), end) {
		t.Fatal(stream, text, end)
	}
}

// signs are so many bytes, none of which is the one ahead of it.
func signs(n int) string {
	b := make([]byte, n)
	for i := range b {
		b[i] = byte(i % 251)
	}
	return string(b)
}

// wants asks a ring as often as there are answers, by so many bytes.
func wants(t *testing.T, r *turns.Ring, most int, l ...sent) {
	t.Helper()
	for i, want := range l {
		if can := r.Can(); can != want.ok {
			t.Fatal(i, can)
		}
		if got := next(r, most); got != want {
			t.Fatalf("%d: %v, wanted %v", i, got, want)
		}
	}
}

// goes asks a ring byte by byte, and tells which streams send.
func goes(t *testing.T, r *turns.Ring, streams ...uint32) {
	t.Helper()
	for i, want := range streams {
		if got := next(r, 1); got.stream != want || len(got.bytes) != 1 || !got.ok {
			t.Fatalf("%d: %v, wanted %d", i, got, want)
		}
	}
}

func TestP13_1Example(t *testing.T) {
	r := open(t, plenty, 1, 3)
	put(t, r, 1, "aaaabbbbcc", true)
	put(t, r, 3, "ddddeeeeff", false)
	wants(t, r, 4, part(1, "aaaa"), part(3, "dddd"), part(1, "bbbb"), part(3, "eeee"), last(1, "cc"), part(3, "ff"), nothing, nothing)
	if r.Left(0) != plenty-20 || r.Left(1) != plenty-10 || r.Left(3) != plenty-10 {
		t.Error(r.Left(0), r.Left(1), r.Left(3))
	}
}

func TestP13_1New(t *testing.T) {
	for _, x := range lefts {
		r := turns.New(x.left)
		if r.Left(0) != x.want || r.Left(1) != 0 || r.All() != 0 || r.Can() || next(r, 1) != nothing {
			t.Error(x.left, r.Left(0))
		}
	}
}

func TestP13_1Open(t *testing.T) {
	for _, x := range lefts {
		r := turns.New(5)
		if !r.Open(1, x.left) || r.Left(1) != x.want || r.Left(0) != 5 || r.Waits(1) != 0 || r.All() != 0 || r.Can() {
			t.Error(x.left, r.Left(1))
		}
	}
	r := turns.New(5)
	streams := []uint32{7, 1, 2, 3, math.MaxInt32, math.MaxInt32 + 1, math.MaxUint32}
	for i, s := range streams {
		if r.Open(0, 9) || !r.Open(s, int64(i)) || r.Open(s, 9) {
			t.Error(s)
		}
	}
	for i, s := range streams {
		if r.Open(s, 9) || r.Left(s) != int64(i) {
			t.Error(s, r.Left(s))
		}
	}
	if r.Left(0) != 5 {
		t.Error(r.Left(0))
	}
}

// What is there already stays as it is, where it is.
func TestP13_1OpenAgain(t *testing.T) {
	r := row(t, 3, 1, 3)
	put(t, r, 1, "x", true)
	if r.Open(1, 0) || r.Put(1, nil, false) || r.Waits(1) != 4 || r.Left(1) != plenty {
		t.Error(r.Waits(1), r.Left(1))
	}
	goes(t, r, 1, 3, 1, 3)
}

func TestP13_1Put(t *testing.T) {
	r := open(t, plenty, 1, 3)
	for i, x := range []struct {
		stream uint32
		text   string
		end    bool
		ok     bool
		waits  int
	}{
		{1, "ab", false, true, 2}, {1, "", false, true, 2}, {1, "c", false, true, 3}, {0, "x", false, false, 0}, {5, "x", true, false, 0},
		{1, "d", true, true, 4}, {1, "e", false, false, 4}, {1, "", true, false, 4}, {1, "", false, false, 4},
		{3, "", false, true, 0}, {3, "", true, true, 0}, {3, "f", false, false, 0}, {3, "", true, false, 0},
	} {
		if ok := r.Put(x.stream, []byte(x.text), x.end); ok != x.ok || r.Waits(x.stream) != x.waits {
			t.Error(i, ok, r.Waits(x.stream))
		}
		if all := r.Waits(1) + r.Waits(3); r.All() != all || r.Left(0) != plenty || r.Left(1) != plenty {
			t.Error(i, r.All())
		}
	}
	wants(t, r, 100, last(1, "abcd"), last(3, ""), nothing)
	for _, s := range []uint32{1, 3} { // also behind the end that was sent
		if r.Put(s, []byte("g"), false) || r.Put(s, nil, true) || r.Waits(s) != 0 {
			t.Error(s)
		}
	}
	wants(t, r, 100, nothing)
}

// A stream goes on behind what it sent.
func TestP13_1PutBehind(t *testing.T) {
	r := open(t, plenty, 1)
	wants(t, r, 5, nothing)
	put(t, r, 1, "abc", false)
	wants(t, r, 2, part(1, "ab"))
	put(t, r, 1, "de", false)
	wants(t, r, 2, part(1, "cd"), part(1, "e"), nothing)
	put(t, r, 1, "", false)
	wants(t, r, 2, nothing)
	put(t, r, 1, "f", false)
	wants(t, r, 2, part(1, "f"), nothing)
	put(t, r, 1, "", true)
	wants(t, r, 2, last(1, ""), nothing)
}

// An end that is told behind the bytes goes with the last ones.
func TestP13_1EndBehind(t *testing.T) {
	r := open(t, plenty, 1)
	put(t, r, 1, "abc", false)
	put(t, r, 1, "", true)
	wants(t, r, 2, part(1, "ab"), last(1, "c"), nothing)
}

func TestP13_1Most(t *testing.T) {
	const n = 20
	for _, x := range []struct{ most, want int }{
		{math.MinInt, 1}, {-1 << 32, 1}, {-1, 1}, {0, 1}, {1, 1}, {2, 2}, {n - 1, n - 1}, {n, n}, {n + 1, n}, {1 << 32, n}, {1<<32 + 1, n}, {math.MaxInt, n},
	} {
		for _, end := range []bool{false, true} {
			r := open(t, plenty, 1)
			put(t, r, 1, signs(n), end)
			want := sent{1, signs(n)[:x.want], end && x.want == n, true}
			if got := next(r, x.most); got != want || r.Waits(1) != n-x.want || r.All() != n-x.want || r.Left(1) != int64(plenty-x.want) || r.Left(0) != r.Left(1) {
				t.Error(x.most, got, r.Waits(1), r.All(), r.Left(1))
			}
		}
	}
}

// Bytes go as far as both windows let, an end alone goes always.
func TestP13_1Windows(t *testing.T) {
	edges := []int64{math.MinInt64, least, -5, -1, 0, 1, 2, 4, 5, 6, most, math.MaxInt64}
	for _, conn := range edges {
		for _, own := range edges {
			for n := range 6 {
				for _, end := range []bool{false, true} {
					r := turns.New(conn)
					r.Open(1, own)
					before, left := r.Left(0), r.Left(1)
					put(t, r, 1, signs(n), end)
					goes := int(min(max(before, 0), max(left, 0), int64(n)))
					want := nothing
					if goes > 0 || n == 0 && end {
						want = sent{1, signs(n)[:goes], end && goes == n, true}
					}
					wants(t, r, 10, want, nothing)
					if r.Left(0) != before-int64(goes) || r.Left(1) != left-int64(goes) || r.Waits(1) != n-goes || r.All() != n-goes {
						t.Error(conn, own, n, end, r.Left(0), r.Left(1), r.Waits(1))
					}
				}
			}
		}
	}
}

// A connection without a window holds up bytes, not ends.
func TestP13_1ConnHoldsUp(t *testing.T) {
	for _, left := range []int64{0, -1, least} {
		r := turns.New(left)
		for _, s := range []uint32{1, 3, 5, 7} {
			r.Open(s, 10)
		}
		put(t, r, 1, "ab", false)
		put(t, r, 3, "", true)
		put(t, r, 5, "c", true)
		put(t, r, 7, "", true)
		wants(t, r, 9, last(3, ""), last(7, ""), nothing)
		r.Grow(0, uint32(3-left))
		wants(t, r, 9, part(1, "ab"), last(5, "c"), nothing)
	}
}

// One that can't send is passed over, and is asked again when its turn comes.
func TestP13_1PassesOver(t *testing.T) {
	r := turns.New(plenty)
	for _, s := range []uint32{1, 3, 5, 7} {
		r.Open(s, int64(s)-3) // -2, 0, 2 and 4
		put(t, r, s, signs(9), false)
	}
	goes(t, r, 5, 7, 5, 7, 7, 7)
	wants(t, r, 1, nothing)
	r.Grow(3, 2)
	r.Grow(1, 2)
	goes(t, r, 3, 3)
	wants(t, r, 1, nothing)
	r.Grow(1, 1)
	goes(t, r, 1)
	r.Shift(0, 2)
	goes(t, r, 3, 5, 7, 1, 3, 5, 7, 1)
	wants(t, r, 1, nothing)
}

// Behind the ring's last one the turn is at its first one at once, so one that comes then waits for all others.
func TestP13_1TurnBehindLast(t *testing.T) {
	r := row(t, 9, 1, 3)
	goes(t, r, 1, 3)
	r.Open(5, 9)
	put(t, r, 5, "abc", false)
	goes(t, r, 1, 3, 5, 1)
	r = row(t, 9, 1)
	goes(t, r, 1)
	r.Open(3, 9)
	put(t, r, 3, "abc", false)
	goes(t, r, 1, 3, 1, 3)
}

// One that comes amid a round stands behind the last one all the same.
func TestP13_1TurnAmid(t *testing.T) {
	r := row(t, 9, 5, 3)
	goes(t, r, 5)
	r.Open(1, 9)
	put(t, r, 1, "abc", false)
	goes(t, r, 3, 1, 5, 3, 1)
}

// The turn moves when something is sent, and by no other call. Where it is shows when all streams have bytes.
func TestP13_1TurnStays(t *testing.T) {
	for name, call := range map[string]func(*turns.Ring){
		"Next of nothing":        func(r *turns.Ring) { r.Next(1) },
		"Can":                    func(r *turns.Ring) { r.Can() },
		"Open":                   func(r *turns.Ring) { r.Open(9, 5) },
		"Open again":             func(r *turns.Ring) { r.Open(3, 5) },
		"Put":                    func(r *turns.Ring) { r.Put(1, []byte("x"), false) },
		"Put of nothing":         func(r *turns.Ring) { r.Put(5, nil, false) },
		"Grow":                   func(r *turns.Ring) { r.Grow(1, 3) },
		"Grow of the connection": func(r *turns.Ring) { r.Grow(0, 3) },
		"Shift":                  func(r *turns.Ring) { r.Shift(3, 2) },
		"Shift with a fault":     func(r *turns.Ring) { r.Shift(0, math.MaxUint32) },
		"Drop of none":           func(r *turns.Ring) { r.Drop(9) },
		"Waits, Left, All":       func(r *turns.Ring) { r.Waits(1); r.Left(1); r.All() },
	} {
		for at, want := range [][]uint32{{1, 3, 5}, {3, 5, 1}, {5, 1, 3}, {1, 3, 5}} {
			r := open(t, plenty, 1, 3, 5)
			for _, s := range []uint32{1, 3, 5}[:at] {
				put(t, r, s, "x", false)
			}
			goes(t, r, []uint32{1, 3, 5}[:at]...)
			call(r)
			for _, s := range []uint32{1, 3, 5} {
				put(t, r, s, "xx", false)
			}
			if got := next(r, 1); got.stream != want[0] {
				t.Errorf("%s: %v, wanted %v", name, got, want)
			}
			goes(t, r, want[1:]...)
		}
	}
}

// Whichever stream goes, the turn is at the one at which it was, or at the one behind that.
func TestP13_1DropTurn(t *testing.T) {
	for _, x := range []struct {
		turns int
		drop  []uint32
		want  []uint32
	}{
		{0, []uint32{1}, []uint32{3, 5, 7, 3}}, {0, []uint32{3}, []uint32{1, 5, 7, 1}}, {0, []uint32{7}, []uint32{1, 3, 5, 1}},
		{1, []uint32{1}, []uint32{3, 5, 7, 3}}, {1, []uint32{3}, []uint32{5, 7, 1, 5}}, {1, []uint32{5}, []uint32{3, 7, 1, 3}}, {1, []uint32{7}, []uint32{3, 5, 1, 3}},
		{2, []uint32{1}, []uint32{5, 7, 3, 5}}, {2, []uint32{3}, []uint32{5, 7, 1, 5}}, {2, []uint32{5}, []uint32{7, 1, 3, 7}}, {2, []uint32{7}, []uint32{5, 1, 3, 5}},
		{3, []uint32{1}, []uint32{7, 3, 5, 7}}, {3, []uint32{5}, []uint32{7, 1, 3, 7}}, {3, []uint32{7}, []uint32{1, 3, 5, 1}},
		{4, []uint32{1}, []uint32{3, 5, 7, 3}}, {4, []uint32{7}, []uint32{1, 3, 5, 1}},
		{3, []uint32{7, 1}, []uint32{3, 5, 3}}, {3, []uint32{1, 7}, []uint32{3, 5, 3}}, {3, []uint32{5, 7}, []uint32{1, 3, 1}},
		{2, []uint32{5, 7}, []uint32{1, 3, 1}}, {2, []uint32{1, 3}, []uint32{5, 7, 5}}, {2, []uint32{7, 5, 1}, []uint32{3, 3}},
		{1, []uint32{0, 9}, []uint32{3, 5, 7, 1}}, {1, []uint32{1, 3, 5, 7}, nil}, {3, []uint32{7, 5, 3, 1}, nil},
	} {
		r := row(t, 9, 1, 3, 5, 7)
		for range x.turns {
			r.Next(1)
		}
		for _, s := range x.drop {
			r.Drop(s)
		}
		goes(t, r, x.want...)
		if len(x.want) == 0 && (r.Can() || r.All() != 0 || next(r, 1) != nothing) {
			t.Error(x)
		}
	}
}

// A ring that was emptied is as a new one, but for the connection's window.
func TestP13_1DropAll(t *testing.T) {
	for n := range 4 {
		r := row(t, 2, 1, 3, 5)
		for range n {
			r.Next(1)
		}
		for _, s := range []uint32{3, 5, 1} {
			r.Drop(s)
		}
		for _, s := range []uint32{5, 1} {
			r.Open(s, 3)
			put(t, r, s, "ab", true)
		}
		wants(t, r, 1, part(5, "a"), part(1, "a"), last(5, "b"), last(1, "b"), nothing)
		if r.Left(0) != int64(plenty-n-4) {
			t.Error(n, r.Left(0))
		}
	}
}

// Of a stream that goes nothing is left, and it may come anew, behind the last one.
func TestP13_1DropForgets(t *testing.T) {
	r := row(t, 4, 1, 3)
	put(t, r, 1, "x", true)
	r.Grow(1, 100)
	r.Drop(1)
	if r.Waits(1) != 0 || r.Left(1) != 0 || r.All() != 4 || r.Put(1, []byte("y"), false) || r.Left(0) != plenty {
		t.Error(r.Waits(1), r.Left(1), r.All())
	}
	if !r.Open(1, 7) || r.Left(1) != 7 || r.Waits(1) != 0 || r.All() != 4 {
		t.Error(r.Left(1), r.Waits(1))
	}
	put(t, r, 1, "z", false) // no end was told of this one
	wants(t, r, 2, part(3, signs(2)), part(1, "z"), part(3, signs(4)[2:]), nothing)
	put(t, r, 1, "", true)
	wants(t, r, 2, last(1, ""))
	r.Drop(1)
	r.Drop(1)
	r.Open(1, 7)
	put(t, r, 1, "", true) // nor was one sent
	wants(t, r, 2, last(1, ""), nothing)
}

func TestP13_1Grow(t *testing.T) {
	growths := []uint32{0, 1, 2, 5, most - 10, most - 1, most, most + 1, 1<<32 - 1}
	for _, x := range lefts {
		for _, n := range growths {
			want, connWrong, streamWrong := x.want+int64(n), none, none
			if want > most {
				want, connWrong, streamWrong = x.want, connFlow, streamFlow
			}
			r := turns.New(x.left)
			r.Open(1, 3)
			if wrong := r.Grow(0, n); wrong != connWrong || r.Left(0) != want || r.Left(1) != 3 {
				t.Error("connection", x.left, n, wrong, r.Left(0))
			}
			r = turns.New(5)
			r.Open(3, 3)
			r.Open(1, x.left)
			if wrong := r.Grow(1, n); wrong != streamWrong || r.Left(1) != want || r.Left(0) != 5 || r.Left(3) != 3 {
				t.Error("stream", x.left, n, wrong, r.Left(1))
			}
			for _, s := range []uint32{5, math.MaxUint32} { // one that isn't there
				if wrong := r.Grow(s, n); wrong != none || r.Left(s) != 0 {
					t.Error("none", n, wrong)
				}
			}
			r.Drop(1)
			if wrong := r.Grow(1, n); wrong != none || r.Left(1) != 0 {
				t.Error("gone", n, wrong)
			}
		}
	}
}

func TestP13_1Shift(t *testing.T) {
	sizes := []uint32{0, 1, 4, 8, 65535, most - 1, most, most + 1, 1<<32 - 1}
	for _, x := range lefts {
		for _, from := range sizes {
			for _, to := range sizes {
				want, wantWrong := max(x.want+int64(to)-int64(from), least), none
				if want > most {
					want, wantWrong = x.want, connFlow
				}
				r := turns.New(77)
				r.Open(1, x.left)
				if wrong := r.Shift(from, to); wrong != wantWrong || r.Left(1) != want || r.Left(0) != 77 {
					t.Error(x.left, from, to, wrong, r.Left(1), r.Left(0))
				}
				if wrong := turns.New(x.left).Shift(from, to); wrong != none {
					t.Error("no streams", from, to, wrong)
				}
			}
		}
	}
}

// The first one that meets a fault, in the ring's order, is the last one that is looked at, wherever the turn is.
func TestP13_1ShiftFault(t *testing.T) {
	for at := range 5 {
		r := turns.New(50)
		for _, x := range []struct {
			stream uint32
			left   int64
		}{{9, 10}, {1, -5}, {5, most - 3}, {3, 20}, {7, most}} {
			r.Open(x.stream, x.left)
		}
		for range at {
			put(t, r, 9, "x", false)
			r.Next(1)
			r.Grow(9, 1)
		}
		if wrong := r.Shift(6, 10); wrong != connFlow {
			t.Error(at, wrong)
		}
		for stream, want := range map[uint32]int64{0: 50 - int64(at), 9: 14, 1: -1, 5: most - 3, 3: 20, 7: most} {
			if got := r.Left(stream); got != want {
				t.Error(at, stream, got)
			}
		}
	}
	r := turns.New(50)
	for _, s := range []uint32{1, 3, 5} {
		r.Open(s, 5)
		put(t, r, s, "ab", false)
	}
	goes(t, r, 1) // the turn is at 3
	r.Grow(1, most-4)
	if wrong := r.Shift(0, 1); wrong != connFlow || r.Left(1) != most || r.Left(3) != 5 || r.Left(5) != 5 {
		t.Error(wrong, r.Left(1), r.Left(3), r.Left(5))
	}
	goes(t, r, 3, 5)
}

func TestP13_1Nil(t *testing.T) {
	var r *turns.Ring
	for _, s := range []uint32{0, 1, math.MaxUint32} {
		r.Drop(s)
		if r.Open(s, 5) || r.Put(s, []byte("a"), true) || r.Put(s, nil, false) || r.Waits(s) != 0 || r.Left(s) != 0 {
			t.Error(s)
		}
		for _, n := range []uint32{0, 1, math.MaxUint32} {
			if r.Grow(s, n) != internalFault || r.Shift(s, n) != internalFault {
				t.Error(s, n)
			}
		}
		if r.All() != 0 || r.Can() {
			t.Error(s)
		}
	}
	for _, n := range []int{math.MinInt, 0, 1, math.MaxInt} {
		if stream, b, end, ok := r.Next(n); stream != 0 || len(b) != 0 || end || ok {
			t.Error(n, stream, b, end, ok)
		}
	}
}

// Whoever writes into what was handed in, or answered, changes nothing.
func TestP13_1NothingShared(t *testing.T) {
	r := open(t, plenty, 1, 3)
	b := []byte("abcdefgh")
	r.Put(1, b[:4], false)
	r.Put(3, b[:6], true)
	if string(b) != "abcdefgh" {
		t.Error(string(b))
	}
	clear(b)
	r.Put(1, []byte("ijkl"), false)
	if !bytes.Equal(b, make([]byte, 8)) {
		t.Error(b)
	}
	for _, want := range []sent{part(1, "ab"), part(3, "ab"), part(1, "cd"), part(3, "cd"), part(1, "ij"), last(3, "ef"), part(1, "kl")} {
		stream, got, end, ok := r.Next(2)
		if (sent{stream, string(got), end, ok}) != want {
			t.Error(stream, string(got), want)
		}
		clear(got[:cap(got)])
		_ = append(got, "xxxxxxxx"...)
	}
	put(t, r, 1, "mn", false)
	_, kept, _, _ := r.Next(2)
	put(t, r, 1, "opqr", false)
	if r.Next(4); string(kept) != "mn" {
		t.Error(string(kept))
	}
}

// Two rings know nothing of each other.
func TestP13_1Apart(t *testing.T) {
	a, b := row(t, 4, 1, 3), row(t, 2, 3, 1)
	a.Grow(1, 5)
	b.Shift(0, 7)
	goes(t, a, 1)
	goes(t, b, 3, 1)
	goes(t, a, 3, 1)
	b.Drop(1)
	if a.Waits(1) != 2 || b.Waits(1) != 0 || a.Left(1) != plenty+3 || b.Left(3) != plenty+6 {
		t.Error(a.Waits(1), b.Waits(1), a.Left(1), b.Left(3))
	}
}

// model is what the chapter says of a ring. Its turn is a stream's number, not a place.
type model struct {
	order []uint32
	turn  uint32           // 0: there are no streams
	left  map[uint32]int64 // of 0 the connection's
	waits map[uint32]string
	ends  map[uint32]int // 1: it was told, 2: it was sent
}

func newModel(left int64) *model {
	return &model{left: map[uint32]int64{0: clamp(left)}, waits: map[uint32]string{}, ends: map[uint32]int{}}
}

func clamp(left int64) int64 { return min(max(left, least), most) }

func (m *model) has(stream uint32) bool { return slices.Contains(m.order, stream) }

// behind is the stream behind one, round the ring.
func (m *model) behind(stream uint32) uint32 {
	twice := slices.Concat(m.order, m.order)
	return twice[slices.Index(twice, stream)+1]
}

func (m *model) open(stream uint32, left int64) bool {
	if stream == 0 || m.has(stream) {
		return false
	}
	m.order = append(m.order, stream)
	m.left[stream], m.waits[stream], m.ends[stream] = clamp(left), "", 0
	if m.turn == 0 {
		m.turn = stream
	}
	return true
}

func (m *model) put(stream uint32, text string, end bool) bool {
	if !m.has(stream) || m.ends[stream] > 0 {
		return false
	}
	m.waits[stream] += text
	if end {
		m.ends[stream] = 1
	}
	return true
}

func (m *model) can(stream uint32) bool {
	if m.waits[stream] == "" {
		return m.ends[stream] == 1
	}
	return m.left[stream] > 0 && m.left[0] > 0
}

func (m *model) any() bool { return slices.ContainsFunc(m.order, m.can) }

func (m *model) next(most int) sent {
	if !m.any() {
		return nothing
	}
	s := m.turn
	for !m.can(s) {
		s = m.behind(s)
	}
	m.turn = m.behind(s)
	n := 0
	for n < len(m.waits[s]) && (n < most || n == 0) && m.left[s] > 0 && m.left[0] > 0 {
		m.left[s]--
		m.left[0]--
		n++
	}
	text := m.waits[s][:n]
	m.waits[s] = m.waits[s][n:]
	if m.waits[s] != "" || m.ends[s] == 0 {
		return part(s, text)
	}
	m.ends[s] = 2
	return last(s, text)
}

func (m *model) grow(stream uint32, n uint32) api.Fault {
	switch {
	case stream != 0 && !m.has(stream):
		return none
	case m.left[stream]+int64(n) <= most:
		m.left[stream] += int64(n)
		return none
	case stream == 0:
		return connFlow
	}
	return streamFlow
}

func (m *model) shift(from, to uint32) api.Fault {
	for _, s := range m.order {
		left := m.left[s] + int64(to) - int64(from)
		if left > most {
			return connFlow
		}
		m.left[s] = clamp(left)
	}
	return none
}

func (m *model) drop(stream uint32) {
	if !m.has(stream) {
		return
	}
	if m.turn == stream {
		m.turn = m.behind(stream)
	}
	m.order = slices.DeleteFunc(m.order, func(s uint32) bool { return s == stream })
	if len(m.order) == 0 {
		m.turn = 0
	}
	delete(m.left, stream)
	delete(m.waits, stream)
	delete(m.ends, stream)
}

// twin is a ring and a model of it.
type twin struct {
	t     *testing.T
	r     *turns.Ring
	m     *model
	calls []string
}

func newTwin(t *testing.T, left int64) *twin {
	x := &twin{t: t, r: turns.New(left), m: newModel(left)}
	x.check()
	return x
}

// streams are those of which twins are asked.
var streams = []uint32{0, 1, 3, 5, 7, 9}

func (x *twin) check() {
	all := 0
	for _, s := range streams {
		if got, want := x.r.Left(s), x.m.left[s]; got != want {
			x.t.Fatalf("behind %v: Left(%d): %d, wanted %d", x.calls, s, got, want)
		}
		if got, want := x.r.Waits(s), len(x.m.waits[s]); got != want {
			x.t.Fatalf("behind %v: Waits(%d): %d, wanted %d", x.calls, s, got, want)
		}
		all += len(x.m.waits[s])
	}
	if x.r.All() != all || x.r.Can() != x.m.any() {
		x.t.Fatalf("behind %v: %d, %v, wanted %d, %v", x.calls, x.r.All(), x.r.Can(), all, x.m.any())
	}
}

// call is one of a ring's, and what tells of it.
type call struct {
	name string
	on   func(x *twin) (got, want any)
}

func (x *twin) do(c call) any {
	x.calls = append(x.calls, c.name)
	got, want := c.on(x)
	if got != want {
		x.t.Fatalf("%v: %v, wanted %v", x.calls, got, want)
	}
	x.check()
	return got
}

func named(name string, numbers ...int64) string {
	for _, n := range numbers {
		name += " " + strconv.FormatInt(n, 10)
	}
	return name
}

func opens(stream uint32, left int64) call {
	return call{named("Open", int64(stream), left), func(x *twin) (any, any) { return x.r.Open(stream, left), x.m.open(stream, left) }}
}

func puts(stream uint32, text string, end bool) call {
	return call{named("Put "+text+" "+strconv.FormatBool(end), int64(stream)), func(x *twin) (any, any) {
		return x.r.Put(stream, []byte(text), end), x.m.put(stream, text, end)
	}}
}

func nexts(most int) call {
	return call{named("Next", int64(most)), func(x *twin) (any, any) { return next(x.r, most), x.m.next(most) }}
}

func grows(stream, n uint32) call {
	return call{named("Grow", int64(stream), int64(n)), func(x *twin) (any, any) { return x.r.Grow(stream, n), x.m.grow(stream, n) }}
}

func shifts(from, to uint32) call {
	return call{named("Shift", int64(from), int64(to)), func(x *twin) (any, any) { return x.r.Shift(from, to), x.m.shift(from, to) }}
}

func drops(stream uint32) call {
	return call{named("Drop", int64(stream)), func(x *twin) (any, any) {
		x.r.Drop(stream)
		x.m.drop(stream)
		return nil, nil
	}}
}

// All rows of up to four calls, on a new ring and on one that has streams already.
func TestP13_1Rows(t *testing.T) {
	begun := []call{
		opens(3, 4), opens(1, 2), opens(5, most-1), puts(3, "abc", false), puts(1, "def", true), puts(5, "gh", false), nexts(1), nexts(1),
	}
	choices := []call{
		opens(1, 3), opens(7, 0), opens(0, 5), puts(1, "ijk", false), puts(3, "", true), puts(5, "l", true), puts(7, "m", true),
		nexts(1), nexts(2), nexts(math.MaxInt), drops(1), drops(3), drops(5), grows(0, 3), grows(1, 1), grows(7, 2), shifts(0, 2), shifts(3, 1),
	}
	rows := 1
	for range 4 {
		rows *= len(choices)
	}
	for _, before := range [][]call{nil, begun} {
		for n := range rows {
			x := newTwin(t, 6)
			for _, c := range before {
				x.do(c)
			}
			for range 4 {
				x.do(choices[n%len(choices)])
				n /= len(choices)
			}
		}
	}
}

// anyCall is one of those that a ring is asked by.
func anyCall(r *rand.Rand) call {
	stream := streams[r.Intn(len(streams))]
	switch r.Intn(40) {
	case 0, 1:
		return opens(stream, int64(r.Intn(40)-8))
	case 2:
		return opens(stream, []int64{most, least, most + 1, least - 1, most - 30}[r.Intn(5)])
	case 3, 4, 5, 6, 7, 8, 9, 10:
		return puts(stream, signs(r.Intn(20)), r.Intn(8) == 0)
	case 11, 12, 13, 14, 15:
		return grows(stream, uint32(r.Intn(30)))
	case 16:
		return grows(0, uint32(r.Intn(60)))
	case 17:
		return grows(stream, []uint32{most, most + 1, most - 30, math.MaxUint32}[r.Intn(4)])
	case 18:
		return shifts(uint32(r.Intn(20)), uint32(r.Intn(20)))
	case 19:
		return shifts(0, most-20)
	case 20:
		return shifts(most-20, 0)
	case 21, 22:
		return drops(stream)
	}
	return nexts(r.Intn(12) - 2)
}

func TestP13_1Any(t *testing.T) {
	r := rand.New(rand.NewSource(13))
	seen := map[string]int{}
	for range 4000 {
		x := newTwin(t, int64(r.Intn(200)-20))
		for range 80 {
			switch got := x.do(anyCall(r)).(type) {
			case sent:
				seen[strconv.FormatBool(got.ok)+strconv.FormatBool(got.end)+strconv.FormatBool(got.bytes == "")]++
			case api.Fault:
				seen[named("fault", int64(got.Scope), int64(got.Code))]++
			}
		}
	}
	if len(seen) != 7 { // nothing, bytes, bytes with their end, an end alone; no fault, one of the connection, one of a stream
		t.Error(seen)
	}
}

// What comes by a ring never is more than meters let, whose windows those of the ring are.
func TestP13_2Meters(t *testing.T) {
	r := rand.New(rand.NewSource(132))
	for range 300 {
		size := uint32(r.Intn(50) + 1)
		ring, conn := turns.New(int64(size)), window.Of(size, false)
		meters := map[uint32]*window.Meter{}
		var put, got [8]int
		for _, s := range []uint32{1, 3, 5, 7} {
			size := uint32(r.Intn(30) + 1)
			ring.Open(s, int64(size))
			meters[s] = window.Of(size, true)
		}
		for range 400 {
			s := uint32(2*r.Intn(4) + 1)
			b := make([]byte, r.Intn(12))
			put[s] += len(b)
			ring.Put(s, b, false)
			s, b, _, ok := ring.Next(r.Intn(20))
			if ok {
				got[s] += len(b)
				if conn.Come(len(b)) != none || meters[s].Come(len(b)) != none || got[s] > put[s] {
					t.Fatal(s, len(b))
				}
			}
			for s, m := range meters {
				n := r.Intn(m.Owed() + 1)
				ring.Grow(s, m.Use(n))
				ring.Grow(0, conn.Use(n))
				if ring.Left(s) != m.Left() || ring.Left(0) != conn.Left() || ring.Waits(s) != put[s]-got[s] {
					t.Fatal(s, ring.Left(s), m.Left())
				}
			}
		}
	}
}

// What was sent of each stream, and of all, is never more than what their windows began with, and grew and were shifted by, till then.
func TestP13_2Credit(t *testing.T) {
	r := rand.New(rand.NewSource(133))
	for range 500 {
		credit := [8]int{r.Intn(300) - 20}
		var got [8]int
		ring := turns.New(int64(credit[0]))
		for _, s := range []uint32{1, 3, 5, 7} {
			credit[s] = r.Intn(60) - 10
			ring.Open(s, int64(credit[s]))
		}
		first := uint32(30)
		for range 200 {
			s := uint32(2*r.Intn(4) + 1)
			ring.Put(s, make([]byte, r.Intn(20)), r.Intn(60) == 0)
			switch r.Intn(6) {
			case 0:
				credit[0] += int(s)
				ring.Grow(0, s)
			case 1:
				credit[s] += 5
				ring.Grow(s, 5)
			case 2:
				to := uint32(r.Intn(60))
				ring.Shift(first, to)
				for _, s := range []uint32{1, 3, 5, 7} {
					credit[s] += int(to) - int(first)
				}
				first = to
			}
			s, b, _, _ := ring.Next(r.Intn(30))
			got[s] += len(b)
			got[0] += len(b)
			if len(b) > 0 && (got[s] > credit[s] || got[0] > credit[0]) {
				t.Fatal(s, len(b), got, credit)
			}
		}
	}
}

// Streams that always can send take turns one by one.
func TestP13_3Rounds(t *testing.T) {
	for n := 1; n <= 20; n++ {
		var all []uint32
		for i := range n {
			all = append(all, uint32((i*7)%20+1))
		}
		r := row(t, 50, all...)
		for range 30 {
			goes(t, r, all...)
		}
	}
}

// A great one doesn't keep small ones from their turns.
func TestP13_3Great(t *testing.T) {
	r := open(t, 1<<20, 1, 3)
	put(t, r, 1, string(make([]byte, 1<<19)), false)
	for range 20 {
		put(t, r, 3, "x", false)
		if a, b := next(r, 16384), next(r, 16384); a.stream != 1 || len(a.bytes) != 16384 || b != part(3, "x") {
			t.Fatal(a.stream, b)
		}
	}
}

// fair keeps, for each stream that had a turn, which others could send ever since, and had none.
type fair struct {
	t     *testing.T
	x     *twin
	waits map[uint32][]uint32
}

func (f *fair) do(c call) {
	got, ok := f.x.do(c).(sent)
	if ok && got.ok {
		if late := f.waits[got.stream]; len(late) > 0 {
			f.t.Fatal(f.x.calls, got.stream, late)
		}
	}
	for s, l := range f.waits {
		f.waits[s] = slices.DeleteFunc(l, func(o uint32) bool { return o == got.stream || !f.x.m.can(o) })
	}
	if ok && got.ok {
		f.waits[got.stream] = slices.DeleteFunc(slices.Clone(f.x.m.order), func(o uint32) bool { return o == got.stream || !f.x.m.can(o) })
	}
	for s := range f.waits { // one that left has no turns any more: if it comes anew, it is another one
		if !f.x.m.has(s) {
			delete(f.waits, s)
		}
	}
}

func TestP13_3Any(t *testing.T) {
	r := rand.New(rand.NewSource(134))
	for range 3000 {
		f := fair{t, newTwin(t, 500), map[uint32][]uint32{}}
		for _, s := range streams[1:] {
			f.do(opens(s, 100))
			f.do(puts(s, signs(20), false))
		}
		for range 80 {
			f.do(anyCall(r))
		}
	}
}
