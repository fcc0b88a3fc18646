package conn_test

import (
	"bytes"
	"fmt"
	"math/rand"
	"reflect"
	"slices"
	"strings"
	"testing"

	"louver/api"
	"louver/conn"
	"louver/frame"
	"louver/split"
)

// outcome is all that bytes led to.
type outcome struct {
	told   []api.Event
	sent   string
	states string
}

// comeBy hands bytes to a side in pieces of so many, and tells all that it led to.
func comeBy(c *conn.Conn, b []byte, size func() int) outcome {
	var o outcome
	poll := func() {
		for {
			e, ok := c.Poll()
			if !ok {
				return
			}
			o.told = append(o.told, e)
		}
	}
	for len(b) > 0 && !c.Gone() {
		piece := b[:min(len(b), max(1, size()))]
		b = b[c.Feed(piece):]
		poll()
	}
	o.sent = string(c.Out(1 << 20))
	for n := range uint32(12) {
		o.states += fmt.Sprint(c.State(n), c.Waits(n), " ")
	}
	o.states += fmt.Sprint(c.Live(), c.Gone(), c.Quiet(), c.Peer())
	return o
}

// history are bytes that come to a server: of any frames, of which the last ones may be wrong.
func history(t *testing.T, seed int64, steps int) []byte {
	t.Helper()
	m := newModel(true, 0)
	c := &chooser{Rand: rand.New(rand.NewSource(seed)), m: m, wild: seed%2 == 0}
	r := newRig(t, true, 0)
	b := split.Preface()
	for i := range steps {
		line := c.line()
		if i == 0 {
			line = "> SETTINGS 4=20"
		}
		if !isFrame(line) {
			continue
		}
		x := r.bytes(line[2:])
		m.come(x)
		b = append(b, x...)
	}
	return b
}

// Bytes may be cut anywhere: in two, in three.
func TestP14_2Cuts(t *testing.T) {
	r := newRig(t, true, 0)
	b := split.Preface()
	for _, line := range []string{"SETTINGS 4=9", "HEADERS 1 a=b part", "MORE 1 c=d", "DATA 1 abc pad=2", "PING abcdefgh", "WINDOW 1 5", "HEADERS 1 e=f", "HEADERS 3 a=b end", "SETTINGS ack", "GOAWAY 0 0", "SETTINGS ack", "PING abcdefgh"} {
		b = append(b, r.bytes(line)...)
	}
	want := comeBy(conn.New(true, 0), b, func() int { return len(b) })
	if len(want.told) != 7 || want.told[3].Fault.Code != api.ProtocolError || want.told[6].Fault.Scope != api.ConnFault {
		t.Fatal(want.told)
	}
	for i := range len(b) {
		for j := i; j <= len(b); j++ {
			cuts := []int{i, j - i, len(b)}
			got := comeBy(conn.New(true, 0), b, func() int {
				n := cuts[0]
				cuts = append(cuts[1:], len(b))
				return n
			})
			if !reflect.DeepEqual(got, want) {
				t.Fatal(i, j, got, want)
			}
		}
	}
}

// Any bytes, cut in any way.
func TestP14_2Pieces(t *testing.T) {
	for seed := range int64(150) {
		b := history(t, seed, 120)
		want := comeBy(conn.New(true, 0), b, func() int { return len(b) })
		for _, most := range []int{1, 3, 20, 1000} {
			r := rand.New(rand.NewSource(seed))
			got := comeBy(conn.New(true, 0), b, func() int { return 1 + r.Intn(most) })
			if !reflect.DeepEqual(got, want) {
				t.Fatal(seed, most, got, want)
			}
		}
	}
}

// Bytes that are no frames, cut in any way.
func TestP14_2AnyBytes(t *testing.T) {
	for seed := range int64(2000) {
		r := rand.New(rand.NewSource(seed))
		b := history(t, seed, r.Intn(30))
		for range 1 + r.Intn(4) {
			if len(b) > 40 {
				b[33+r.Intn(len(b)-33)] ^= 1 << r.Intn(8)
			}
		}
		want := comeBy(conn.New(true, 0), b, func() int { return len(b) })
		got := comeBy(conn.New(true, 0), b, func() int { return 1 + r.Intn(9) })
		if !reflect.DeepEqual(got, want) {
			t.Fatal(seed, got, want)
		}
	}
}

// What is sent is the same, however it is taken.
func TestP14_2Out(t *testing.T) {
	lines := []string{"> SETTINGS 4=30000", "! settings", times("> HEADERS @ a=b\n! headers @ a=b", odd(1, 9)...), times("Answer @ c=d -> OK", odd(1, 9)...), "Data 1 *30000 end -> OK", "Data 3 *20000 -> OK", "Data 5 - end -> OK",
		"Data 7 *10 end -> OK", "> PING abcdefgh", "> DATA 5 *16000", "! data 5 *16000", "> DATA 5 *16384", "! data 5 *16384", "> DATA 5 *384 end", "! data 5 *384 end"}
	all := server(t)
	all.run(lines...)
	want := all.c.Out(1 << 20)
	if len(want) < 50000 || all.c.State(5) != api.Over {
		t.Fatal(len(want), all.c.State(5))
	}
	for _, most := range []int{1, 2, 7, 100, 1000, 20000, 60000} {
		for _, any := range []bool{false, true} {
			rnd := rand.New(rand.NewSource(int64(most)))
			r := server(t)
			r.run(lines...)
			var got []byte
			for {
				n := most
				if any {
					n = 1 + rnd.Intn(most)
				}
				b := r.c.Out(n)
				got = append(got, b...)
				if len(b) > n || len(b) < n && !r.c.Quiet() {
					t.Fatal(n, len(b))
				}
				if len(b) == 0 {
					break
				}
			}
			if !bytes.Equal(got, want) {
				t.Fatal(most, any, len(got), len(want))
			}
		}
	}
}

// A credit counts what the other side let, by the frames alone.
type credit struct {
	all     int64
	first   int64
	streams map[string]int64
}

// come takes a frame of the other side into account, as a text.
func (c *credit) come(words []string) {
	switch words[0] {
	case "HEADERS":
		if _, ok := c.streams[words[1]]; !ok {
			c.streams[words[1]] = c.first
		}
	case "WINDOW":
		var n int64
		fmt.Sscan(words[2], &n)
		if words[1] == "0" {
			c.all += n
		} else if _, ok := c.streams[words[1]]; ok {
			c.streams[words[1]] += n
		}
	case "SETTINGS":
		for _, w := range words[1:] {
			var n int64
			if _, e := fmt.Sscanf(w, "4=%d", &n); e == nil {
				for s := range c.streams {
					c.streams[s] += n - c.first
				}
				c.first = n
			}
		}
	}
}

// sent takes a frame of DATA into account, and tells whether it is within credit.
func (c *credit) sent(f api.Frame) bool {
	n, s := int64(len(f.Data)), fmt.Sprint(f.Stream)
	if n == 0 {
		return true
	}
	if n > c.all || n > c.streams[s] || n > api.MaxFrame {
		return false
	}
	c.all -= n
	c.streams[s] -= n
	return true
}

// Whatever the windows are, and whenever they change, what is sent is within them; and all that is let is sent.
func TestP14_3Credit(t *testing.T) {
	for seed := range int64(500) {
		m := newModel(true, 0)
		c := &chooser{Rand: rand.New(rand.NewSource(seed)), m: m}
		r := newRig(t, true, 0)
		r.feed(split.Preface())
		let := &credit{all: 65535, first: 65535, streams: map[string]int64{}}
		for i := range 200 {
			line := c.line()
			if i == 0 {
				line = "> SETTINGS 4=40"
			}
			switch {
			case isFrame(line):
				words := strings.Fields(line[2:])
				b := r.bytes(line[2:])
				let.come(words)
				r.feed(b)
				m.come(b)
			case line != "<":
				r.call(strings.Fields(line))
				m.call(t, strings.Fields(line))
			}
			m.drain()
			for b := r.c.Out(1 << 20); len(b) > 0; {
				n, _ := frame.Head(b)
				f, wrong := frame.Get(b[:n])
				b = b[n:]
				if wrong != (api.Fault{}) || f.Type == api.DataFrame && !let.sent(f) {
					t.Fatal(seed, i, f, wrong, let)
				}
			}
			for n := range m.greatest + 1 {
				if r.c.Waits(n) > 0 && let.all > 0 && let.streams[fmt.Sprint(n)] > 0 {
					t.Fatal(seed, i, n, r.c.Waits(n), let)
				}
			}
		}
	}
}

// An end is a side of an honest pair, with its owner.
type end struct {
	c     *conn.Conn
	out   []byte // on its way to the other end
	sent  map[uint32][]byte
	got   map[uint32][]byte
	ends  map[uint32]bool // were told of this end
	heard map[uint32]int  // bytes that weren't used up
}

func newEnd(c *conn.Conn) *end {
	return &end{c: c, sent: map[uint32][]byte{}, got: map[uint32][]byte{}, ends: map[uint32]bool{}, heard: map[uint32]int{}}
}

// moves lets at most so many bytes of one end go, and as many come to the other one.
func moves(t *testing.T, from, to *end, n, m int) {
	t.Helper()
	from.out = append(from.out, from.c.Out(n)...)
	took := to.c.Feed(from.out[:min(m, len(from.out))])
	from.out = from.out[took:]
	for {
		e, ok := to.c.Poll()
		if !ok {
			return
		}
		switch e.Kind {
		case api.GotFault:
			t.Fatal(e)
		case api.GotData:
			to.got[e.Stream] = append(to.got[e.Stream], e.Data...)
			to.heard[e.Stream] += len(e.Data)
			to.ends[e.Stream] = to.ends[e.Stream] || e.End
		case api.GotHeaders:
			to.ends[e.Stream] = to.ends[e.Stream] || e.End
		}
	}
}

// acts lets an owner do something.
func (x *end) acts(r *rand.Rand, client bool, greatest *uint32) {
	n := 1 + 2*uint32(r.Intn(int(*greatest)/2+1))
	if *greatest > 20 && r.Intn(4) > 0 {
		n = *greatest - 2*uint32(r.Intn(10))
	}
	l := []api.Field{{Name: "x", Value: fmt.Sprint(r.Intn(500))}, {Name: ":path", Value: strings.Repeat("y", r.Intn(60)), Never: r.Intn(2) == 0}}
	switch r.Intn(12) {
	case 0, 1:
		if k, e := x.c.Open(l, r.Intn(5) == 0); client && e == api.OK {
			*greatest = k
		}
	case 2, 3:
		x.c.Answer(n, l, r.Intn(3) == 0)
	case 4, 5, 6:
		b := signs(r.Intn([]int{5, 50, 3000, 30000}[r.Intn(4)]))
		if x.c.Data(n, b, r.Intn(6) == 0) == api.OK {
			x.sent[n] = append(x.sent[n], b...)
		}
	case 7, 8, 9, 10:
		k := min(x.heard[n], r.Intn(20000))
		x.c.Use(n, k)
		x.heard[n] -= k
	case 11:
		if r.Intn(4) == 0 {
			x.c.Reset(n, uint32(r.Intn(12)))
		} else if r.Intn(100) == 0 {
			x.c.Away(0)
		}
	}
}

// rest moves all, and uses all up.
func rest(t *testing.T, a, b *end) {
	t.Helper()
	for range 100000 {
		for _, x := range []*end{a, b} {
			for n, k := range x.heard {
				x.c.Use(n, k)
				x.heard[n] = 0
			}
		}
		if a.c.Quiet() && b.c.Quiet() && len(a.out)+len(b.out) == 0 {
			return
		}
		moves(t, a, b, 1<<20, 1<<20)
		moves(t, b, a, 1<<20, 1<<20)
	}
	t.Fatal("no rest")
}

// Honest sides meet no fault, whatever their owners do, and however slowly bytes go; what is told is what was sent, in its order.
func TestP14_4Honest(t *testing.T) {
	for seed := range int64(150) {
		r := rand.New(rand.NewSource(seed))
		size := []uint32{1, 10, 1000, 65535, 1 << 20}[r.Intn(5)]
		a, b := newEnd(conn.New(false, size)), newEnd(conn.New(true, 0))
		var greatest uint32
		for range 600 {
			switch r.Intn(6) {
			case 0:
				moves(t, a, b, 1<<20, 1+r.Intn(30000))
			case 1:
				moves(t, b, a, 1<<20, 1+r.Intn(30000))
			case 2:
				moves(t, a, b, r.Intn(50), r.Intn(50))
				moves(t, b, a, r.Intn(50), r.Intn(50))
			case 3, 4:
				a.acts(r, true, &greatest)
			default:
				b.acts(r, false, &greatest)
			}
		}
		rest(t, a, b)
		checkEnds(t, seed, greatest, a, b)
	}
}

// checkEnds holds against each other what two ends that are at rest know.
func checkEnds(t *testing.T, seed int64, greatest uint32, a, b *end) {
	t.Helper()
	if a.c.Live() != b.c.Live() {
		t.Fatal(seed, a.c.Live(), b.c.Live())
	}
	// What one side calls so the other one does, too; a stream that it resets may be over there.
	pairs := map[uint8][]uint8{
		api.Open: {api.Open}, api.EndedHere: {api.EndedPeer}, api.EndedPeer: {api.EndedHere},
		api.Over: {api.Over, api.ResetHere}, api.ResetHere: {api.ResetPeer, api.ResetHere, api.Over}, api.ResetPeer: {api.ResetHere},
	}
	for n := uint32(1); n <= greatest; n += 2 {
		x, y := a.c.State(n), b.c.State(n)
		if !slices.Contains(pairs[x], y) {
			t.Fatal(seed, n, stateText(x), stateText(y))
		}
		for _, way := range [][2]*end{{a, b}, {b, a}} {
			from, to := way[0], way[1]
			if !bytes.HasPrefix(from.sent[n], to.got[n]) {
				t.Fatal(seed, n, "other bytes")
			}
			live := x == api.Open || x == api.EndedHere || x == api.EndedPeer
			if (live || to.ends[n]) && len(to.got[n]) != len(from.sent[n]) {
				t.Fatal(seed, n, stateText(x), len(to.got[n]), len(from.sent[n]), from.c.Waits(n))
			}
		}
	}
}

// A request and its answer, both with DATA and an end, over and over.
func TestP14_4Over(t *testing.T) {
	a, b := newEnd(conn.New(false, 100)), newEnd(conn.New(true, 0))
	rest(t, a, b)
	for i := range 300 {
		n, e := a.c.Open([]api.Field{{Name: ":method", Value: "GET"}}, false)
		if e != api.OK || n != uint32(2*i+1) {
			t.Fatal(n, e)
		}
		if e := a.c.Data(n, signs(1000), true); e != api.OK {
			t.Fatal(e)
		}
		a.sent[n] = signs(1000)
		rest(t, a, b)
		if b.c.Answer(n, nil, false) != api.OK || b.c.Data(n, signs(2000), true) != api.OK {
			t.Fatal(i)
		}
		b.sent[n] = signs(2000)
		rest(t, a, b)
		if len(a.got[n]) != 2000 || len(b.got[n]) != 1000 || a.c.State(n) != api.Over || b.c.State(n) != api.Over || a.c.Live()+b.c.Live() != 0 {
			t.Fatal(i, len(a.got[n]), len(b.got[n]), a.c.State(n), b.c.State(n))
		}
	}
	checkEnds(t, 0, 599, a, b)
}

// A client opens no more than the server lets.
func TestP14_4MostStreams(t *testing.T) {
	a, b := newEnd(conn.New(false, 100)), newEnd(conn.New(true, 0))
	if _, e := a.c.Open(nil, false); e != api.ErrFull {
		t.Fatal(e)
	}
	rest(t, a, b)
	for i := range 40 {
		want := api.OK
		if i >= api.MostStreams {
			want = api.ErrFull
		}
		if _, e := a.c.Open(nil, false); e != want {
			t.Fatal(i, e)
		}
	}
	rest(t, a, b)
	if a.c.Live() != 16 || b.c.Live() != 16 {
		t.Error(a.c.Live(), b.c.Live())
	}
}
