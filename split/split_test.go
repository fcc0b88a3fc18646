package split_test

import (
	"bytes"
	"math/rand"
	"reflect"
	"slices"
	"strings"
	"testing"

	"louver/api"
	"louver/frame"
	"louver/split"
)

const room = 9 + 16384

// theBytes are the preface, written out.
var theBytes = []byte{
	'P', 'R', 'I', ' ', '*', ' ', 'H', 'T', 'T', 'P', '/', '2', '.', '0',
	13, 10, 13, 10, 'S', 'M', 13, 10, 13, 10,
}

var (
	none          = api.Fault{}
	protocolFault = api.Fault{Scope: api.ConnFault, Code: api.ProtocolError}
	sizeFault     = api.Fault{Scope: api.ConnFault, Code: api.FrameSizeError}
)

// told is what Next tells.
type told struct {
	f     api.Frame
	wrong api.Fault
	ok    bool
}

var (
	nothing   = told{}
	noPreface = told{api.Frame{Pad: -1}, protocolFault, true}
)

func next(s *split.Splitter) told {
	f, wrong, ok := s.Next()
	return told{f, wrong, ok}
}

// same tells whether the same was told, where no list is one without items.
func same(a, b told) bool {
	for _, x := range []*told{&a, &b} {
		if len(x.f.Data) == 0 {
			x.f.Data = nil
		}
		if len(x.f.Settings) == 0 {
			x.f.Settings = nil
		}
	}
	return reflect.DeepEqual(a, b)
}

// model does what the chapter says, and shares nothing with the splitter.
type model struct {
	held       []byte
	waits, bad bool
}

func (m *model) feed(b []byte) int {
	if m.bad {
		return 0
	}
	n := min(len(b), 16393-len(m.held))
	m.held = append(m.held, b[:n]...)
	return n
}

func (m *model) fail(f api.Frame, wrong api.Fault) told {
	m.held, m.bad = nil, true
	return told{f, wrong, true}
}

func (m *model) next() told {
	if m.bad {
		return nothing
	}
	if m.waits {
		for i, c := range m.held {
			if i < 24 && c != theBytes[i] {
				return m.fail(api.Frame{Pad: -1}, protocolFault)
			}
		}
		if len(m.held) < 24 {
			return nothing
		}
		m.held, m.waits = m.held[24:], false
	}
	if len(m.held) < 9 {
		return nothing
	}
	h := m.held
	n := 9 + int(h[0])*65536 + int(h[1])*256 + int(h[2])
	if n > 16393 {
		stream := uint32(h[5]&0x7f)<<24 | uint32(h[6])<<16 | uint32(h[7])<<8 | uint32(h[8])
		return m.fail(api.Frame{Type: h[3], Flags: h[4], Stream: stream, Pad: -1}, sizeFault)
	}
	if n > len(h) {
		return nothing
	}
	f, wrong := frame.Get(slices.Clone(h[:n]))
	if wrong.Scope == api.ConnFault {
		return m.fail(f, wrong)
	}
	m.held = h[n:]
	return told{f, wrong, true}
}

// pair is a splitter and its model, held against each other in every call.
type pair struct {
	t *testing.T
	s *split.Splitter
	m *model
}

func newPair(t *testing.T, preface bool) *pair {
	p := &pair{t, split.New(preface), &model{waits: preface}}
	p.check()
	return p
}

func (p *pair) check() {
	p.t.Helper()
	if p.s.Held() != len(p.m.held) || p.s.Held() > room || p.s.Bad() != p.m.bad {
		p.t.Fatalf("held %d, want %d; bad %v, want %v", p.s.Held(), len(p.m.held), p.s.Bad(), p.m.bad)
	}
}

func (p *pair) feed(b []byte) int {
	p.t.Helper()
	got, want := p.s.Feed(b), p.m.feed(b)
	if got != want {
		p.t.Fatalf("took %d of %d, want %d", got, len(b), want)
	}
	p.check()
	return got
}

func (p *pair) next() told {
	p.t.Helper()
	got, want := next(p.s), p.m.next()
	if !same(got, want) {
		p.t.Fatalf("told %v, want %v", got, want)
	}
	p.check()
	return got
}

// all are what is told till nothing is.
func (p *pair) all() []told {
	p.t.Helper()
	var l []told
	for x := p.next(); x.ok; x = p.next() {
		l = append(l, x)
	}
	return l
}

// whole are the bytes of a frame of any type, with n bytes of payload.
func whole(kind, flags uint8, stream uint32, n int) []byte {
	b := []byte{byte(n >> 16), byte(n >> 8), byte(n), kind, flags, byte(stream >> 24), byte(stream >> 16), byte(stream >> 8), byte(stream)}
	for i := range n {
		b = append(b, byte(i*7+1))
	}
	return b
}

func data(n int) []byte {
	return whole(api.DataFrame, 0, 1, n)
}

func ping(text string) []byte {
	return frame.Put(api.Frame{Type: api.PingFrame, Pad: -1, Data: []byte(text)})
}

func settings() api.Frame {
	return api.Frame{Type: api.SettingsFrame, Pad: -1, Settings: []api.Setting{{ID: 3, Value: 100}, {ID: 4, Value: 65535}}}
}

func TestP8_1Example(t *testing.T) {
	s := split.New(true)
	b := append(split.Preface(), frame.Put(settings())...)
	if n := s.Feed(b[:30]); n != 30 || s.Held() != 30 {
		t.Error(n, s.Held())
	}
	if x := next(s); !same(x, nothing) {
		t.Error(x)
	}
	if s.Held() != 6 {
		t.Error(s.Held())
	}
	s.Feed(b[30:])
	if x := next(s); !same(x, told{settings(), none, true}) {
		t.Error(x)
	}
	if x := next(s); !same(x, nothing) || s.Held() != 0 || s.Bad() {
		t.Error(x, s.Held())
	}
}

func TestP8_1Preface(t *testing.T) {
	b := split.Preface()
	if !bytes.Equal(b, theBytes) || len(b) != 24 {
		t.Errorf("%q", b)
	}
	clear(b)
	_ = append(b[:0], "others"...)
	if !bytes.Equal(split.Preface(), theBytes) {
		t.Error("the preface was handed out")
	}
	s := split.New(true)
	s.Feed(split.Preface())
	if x := next(s); !same(x, nothing) || s.Bad() {
		t.Error(x)
	}
}

func TestP8_1New(t *testing.T) {
	for _, preface := range []bool{false, true} {
		s := split.New(preface)
		if s == nil || s.Held() != 0 || s.Bad() {
			t.Fatal(preface, s)
		}
		if x := next(s); !same(x, nothing) {
			t.Error(preface, x)
		}
		if n := s.Feed(nil); n != 0 || s.Held() != 0 {
			t.Error(preface, n)
		}
		if n := s.Feed([]byte{}); n != 0 || s.Held() != 0 || s.Bad() {
			t.Error(preface, n)
		}
	}
}

// One tells nothing of what another one is told.
func TestP8_1Others(t *testing.T) {
	a, b, c := split.New(false), split.New(false), split.New(true)
	a.Feed(data(3))
	b.Feed([]byte("\xff\xff\xff123456"))
	c.Feed([]byte("GET"))
	if x := next(b); x.wrong != sizeFault {
		t.Error(x)
	}
	if x := next(c); x.wrong != protocolFault {
		t.Error(x)
	}
	if a.Bad() || a.Held() != 12 || !b.Bad() || !c.Bad() || split.New(true).Held() != 0 {
		t.Error(a.Held())
	}
	if x := next(a); !x.ok || len(x.f.Data) != 3 {
		t.Error(x)
	}
}

func TestP8_1Nil(t *testing.T) {
	var s *split.Splitter
	for range 2 {
		if s.Feed([]byte("abc")) != 0 || s.Feed(nil) != 0 || s.Feed(theBytes) != 0 {
			t.Error("fed")
		}
		if x := next(s); !same(x, nothing) {
			t.Error(x)
		}
		if s.Held() != 0 || !s.Bad() {
			t.Error(s.Held(), s.Bad())
		}
	}
}

// Each beginning of the preface is waited on; what isn't one is told as soon as it is there.
func TestP8_1PrefaceAtEachByte(t *testing.T) {
	for n := range theBytes {
		for _, tail := range []string{"", "x", strings.Repeat("P", 30)} {
			for change := 1; change < 256; change++ {
				p := newPair(t, true)
				p.feed(theBytes[:n])
				if x := p.next(); !same(x, nothing) || p.s.Held() != n {
					t.Fatal(n, x)
				}
				p.feed(append([]byte{theBytes[n] ^ byte(change)}, tail...))
				if x := p.next(); !same(x, noPreface) || !p.s.Bad() || p.s.Held() != 0 {
					t.Fatal(n, change, x)
				}
				if x := p.next(); !same(x, nothing) || p.feed(theBytes) != 0 {
					t.Fatal(n, change, x)
				}
			}
		}
	}
}

// A preface is wrong at its first byte, though nothing more is there; and it isn't, till it is asked.
func TestP8_1WrongPreface(t *testing.T) {
	for _, text := range []string{
		"G", "GET / HTTP/1.1\r\n\r\n", "p", "pri * http/2.0", "PRI * HTTP/1", "PRI * HTTP/2.0\n", "PRI * HTTP/2.0\r\n\r\nSM\r\n\r\r",
		"PRI * HTTP/2.0\r\n\r\nSM\r\n\n\r", "\x00", "\xff", " PRI", "RI * HTTP/2.0\r\n\r\nSM\r\n\r\n", string(settingsBytes()),
	} {
		p := newPair(t, true)
		p.feed([]byte(text))
		if p.s.Bad() || p.s.Held() != len(text) {
			t.Errorf("%q is told ahead", text)
		}
		if x := p.next(); !same(x, noPreface) {
			t.Errorf("%q %v", text, x)
		}
		if !p.s.Bad() {
			t.Errorf("%q isn't bad", text)
		}
	}
}

func settingsBytes() []byte {
	return frame.Put(settings())
}

// Who waits for no preface takes one for a frame's head; who waits for one takes the next one so.
func TestP8_1PrefaceAsFrame(t *testing.T) {
	want := told{api.Frame{Type: ' ', Flags: '*', Stream: 0x20485454, Pad: -1}, sizeFault, true}
	p := newPair(t, false)
	p.feed(theBytes[:8])
	if x := p.next(); !same(x, nothing) {
		t.Error(x)
	}
	p.feed(theBytes[8:])
	if x := p.next(); !same(x, want) {
		t.Error(x)
	}
	p = newPair(t, true)
	p.feed(append(split.Preface(), theBytes...))
	if x := p.next(); !same(x, want) {
		t.Error(x)
	}
}

// The preface's bytes are held till it is asked for a frame, and are taken then, whether a frame is there or not.
func TestP8_1PrefaceHeld(t *testing.T) {
	p := newPair(t, true)
	for i, c := range theBytes {
		if p.feed([]byte{c}); p.s.Held() != i+1 {
			t.Error(i, p.s.Held())
		}
	}
	if x := p.next(); !same(x, nothing) || p.s.Held() != 0 {
		t.Error(x, p.s.Held())
	}
	p = newPair(t, true)
	if n := p.feed(append(split.Preface(), data(16384)...)); n != room {
		t.Error(n)
	}
	if x := p.next(); !same(x, nothing) || p.s.Held() != room-24 {
		t.Error(x, p.s.Held())
	}
	if n := p.feed(data(16384)[room-24:]); n != 24 {
		t.Error(n)
	}
	if x := p.next(); !x.ok || len(x.f.Data) != 16384 || p.s.Held() != 0 {
		t.Error(x.wrong, p.s.Held())
	}
}

// A frame comes just as it is there as a whole.
func TestP8_1Whole(t *testing.T) {
	for _, n := range []int{0, 1, 2, 8, 255, 256, 257, 1000, 16383, 16384} {
		b := data(n)
		p := newPair(t, false)
		p.feed(b[:len(b)-1])
		if x := p.next(); !same(x, nothing) || p.s.Held() != len(b)-1 {
			t.Error(n, x.ok)
		}
		p.feed(b[len(b)-1:])
		x := p.next()
		if !same(x, told{api.Frame{Stream: 1, Pad: -1, Data: b[9:]}, none, true}) {
			t.Error(n, x)
		}
		if x = p.next(); !same(x, nothing) || p.s.Held() != 0 || p.s.Bad() {
			t.Error(n, x)
		}
	}
}

// One call is one frame, and its bytes are those that are taken.
func TestP8_1Row(t *testing.T) {
	rows := [][]byte{data(5), ping("abcdefgh"), settingsBytes(), data(0), whole(77, 255, 1<<31+9, 12), ping("12345678")}
	p := newPair(t, false)
	p.feed(slices.Concat(rows...))
	left := p.s.Held()
	for i, b := range rows {
		f, wrong := frame.Get(b)
		if x := p.next(); !same(x, told{f, wrong, true}) || wrong != none {
			t.Error(i, x)
		}
		if left -= len(b); p.s.Held() != left {
			t.Error(i, p.s.Held(), left)
		}
	}
	if x := p.next(); !same(x, nothing) || left != 0 {
		t.Error(x, left)
	}
}

// A head that tells too many bytes is told at once, whatever else it tells; but not ahead of its last byte.
func TestP8_1TooGreat(t *testing.T) {
	for _, n := range []int{16385, 16386, 16393, 16394, 1<<16 - 1, 1 << 16, 1<<22 + 1, 1<<23 - 1, 1 << 23, 1<<24 - 1} {
		for kind := range 256 {
			flags, stream := uint8(kind*37+n), uint32(kind*n)*2654435761
			head := []byte{byte(n >> 16), byte(n >> 8), byte(n), uint8(kind), flags, byte(stream >> 24), byte(stream >> 16), byte(stream >> 8), byte(stream)}
			p := newPair(t, false)
			p.feed(head[:8])
			if x := p.next(); !same(x, nothing) || p.s.Held() != 8 {
				t.Fatal(n, kind, x)
			}
			p.feed(head[8:])
			want := told{api.Frame{Type: uint8(kind), Flags: flags, Stream: stream & (1<<31 - 1), Pad: -1}, sizeFault, true}
			if x := p.next(); !same(x, want) || !p.s.Bad() || p.s.Held() != 0 {
				t.Fatal(n, kind, x)
			}
			if x := p.next(); !same(x, nothing) {
				t.Fatal(n, kind, x)
			}
		}
	}
}

// What it tells of a frame that is too great is what layer 7 tells of the whole one.
func TestP8_1TooGreatAsLayer7(t *testing.T) {
	for _, stream := range []uint32{0, 1, 1<<31 - 1, 1 << 31, 1<<32 - 1} {
		for _, kind := range []uint8{0, 1, 2, 3, 4, 5, 6, 7, 8, 9, 10, 255} {
			for _, n := range []int{16385, 20000, 70000} {
				b := whole(kind, 41, stream, n)
				f, wrong := frame.Get(b)
				s := split.New(false)
				s.Feed(b)
				if x := next(s); !same(x, told{f, wrong, true}) {
					t.Error(kind, stream, n, x)
				}
			}
		}
	}
}

// The frames ahead of a wrong one come first, and those behind it not at all.
func TestP8_1BadBehindFrames(t *testing.T) {
	for _, x := range []struct {
		b     []byte
		wrong api.Fault
		head  api.Frame
	}{
		{whole(0, 0, 0, 4), protocolFault, api.Frame{}},
		{whole(0, 8, 3, 0), sizeFault, api.Frame{Flags: 8, Stream: 3}},
		{whole(1, 0x20, 1, 4), sizeFault, api.Frame{Type: 1, Flags: 0x20, Stream: 1}},
		{whole(2, 0, 0, 5), protocolFault, api.Frame{Type: 2}},
		{whole(3, 0, 5, 3), sizeFault, api.Frame{Type: 3, Stream: 5}},
		{whole(4, 0, 1, 6), protocolFault, api.Frame{Type: 4, Stream: 1}},
		{whole(4, 1, 0, 6), sizeFault, api.Frame{Type: 4, Flags: 1}},
		{whole(5, 0, 7, 3), sizeFault, api.Frame{Type: 5, Stream: 7}},
		{whole(6, 0, 0, 7), sizeFault, api.Frame{Type: 6}},
		{whole(7, 0, 0, 7), sizeFault, api.Frame{Type: 7}},
		{[]byte("\x00\x00\x04\x08\x00\x00\x00\x00\x00\x00\x00\x00\x00"), protocolFault, api.Frame{Type: 8}},
		{whole(8, 0, 1, 5), sizeFault, api.Frame{Type: 8, Stream: 1}},
		{whole(9, 0, 0, 1), protocolFault, api.Frame{Type: 9}},
	} {
		p := newPair(t, true)
		p.feed(slices.Concat(theBytes, data(3), x.b, data(3)))
		if y := p.next(); !y.ok || y.wrong != none {
			t.Error(x, y)
		}
		x.head.Pad = -1
		if y := p.next(); !same(y, told{x.head, x.wrong, true}) {
			t.Error(x, y)
		}
		if !p.s.Bad() || p.s.Held() != 0 || p.feed(data(3)) != 0 || p.s.Held() != 0 {
			t.Error(x, "isn't bad")
		}
		if y := p.next(); !same(y, nothing) || !p.s.Bad() {
			t.Error(x, y)
		}
	}
}

// A stream's fault is told, and no more.
func TestP8_1StreamFault(t *testing.T) {
	p := newPair(t, false)
	growth := frame.Put(api.Frame{Type: api.WindowFrame, Stream: 3, Pad: -1})
	p.feed(slices.Concat(growth, whole(2, 0, 9, 4), data(2), whole(2, 0, 9, 6)))
	for i, want := range []told{
		{api.Frame{Type: 8, Stream: 3, Pad: -1}, api.Fault{Scope: api.StreamFault, Code: api.ProtocolError}, true},
		{api.Frame{Type: 2, Stream: 9, Pad: -1}, api.Fault{Scope: api.StreamFault, Code: api.FrameSizeError}, true},
		{api.Frame{Stream: 1, Pad: -1, Data: data(2)[9:]}, none, true},
		{api.Frame{Type: 2, Stream: 9, Pad: -1}, api.Fault{Scope: api.StreamFault, Code: api.FrameSizeError}, true},
		nothing,
	} {
		if x := p.next(); !same(x, want) || p.s.Bad() {
			t.Error(i, x)
		}
	}
}

// A wrong frame isn't told ahead of its last byte, unless it is too great.
func TestP8_1WrongButNotWhole(t *testing.T) {
	for _, b := range [][]byte{whole(0, 0, 0, 9), whole(6, 0, 1, 3), whole(3, 0, 1, 16384), whole(0, 8, 1, 1)} {
		p := newPair(t, false)
		for n := range min(len(b)-1, 40) {
			p.feed(b[n : n+1])
			if x := p.next(); !same(x, nothing) {
				t.Error(n, x)
			}
		}
		p.feed(b[p.s.Held():])
		if x := p.next(); !x.ok || x.wrong.Scope != api.ConnFault {
			t.Error(x)
		}
	}
}

// What is handed in isn't changed and isn't kept; what is answered is nobody else's.
func TestP8_1Memory(t *testing.T) {
	s := split.New(true)
	b := slices.Concat(theBytes, ping("abcdefgh"), settingsBytes(), ping("ABCDEFGH"))
	before := slices.Clone(b)
	s.Feed(b)
	if !bytes.Equal(b, before) {
		t.Error("what is handed in is changed")
	}
	clear(b)
	first, list := next(s), next(s)
	if string(first.f.Data) != "abcdefgh" || !same(list, told{settings(), none, true}) {
		t.Error(first, list)
	}
	clear(first.f.Data)
	clear(list.f.Settings)
	_ = append(first.f.Data, bytes.Repeat([]byte{1}, 100)...)
	third := next(s)
	if string(third.f.Data) != "ABCDEFGH" {
		t.Error(third)
	}
	for range 10 {
		s.Feed(bytes.Repeat(ping("--------"), 900))
		for range 1000 {
			next(s)
		}
	}
	if string(third.f.Data) != "ABCDEFGH" || s.Bad() {
		t.Error(third, "what was answered is written into")
	}
}

// All rows of up to five calls over a few pieces.
func TestP8_1Rows(t *testing.T) {
	pieces := [][]byte{theBytes, theBytes[:10], theBytes[10:], data(1), data(1)[:9], {1, 0}, whole(0, 0, 0, 0), data(16384), []byte("\x00\x40\x01\x00\x00\x00\x00\x00\x01")}
	var walk func(row []int)
	walk = func(row []int) {
		for _, preface := range []bool{false, true} {
			p := newPair(t, preface)
			for _, call := range row {
				if call == len(pieces) {
					p.next()
				} else {
					p.feed(pieces[call])
				}
			}
		}
		if len(row) == 5 {
			return
		}
		for call := range len(pieces) + 1 {
			walk(append(slices.Clip(row), call))
		}
	}
	walk(nil)
}

// anyFrames are the bytes of frames of all kinds, seldom one that is wrong.
func anyFrames(r *rand.Rand, count int) []byte {
	var b []byte
	for range count {
		n := r.Intn(20)
		if r.Intn(30) == 0 {
			n = 16384 - r.Intn(300)
		}
		switch r.Intn(12) {
		case 0:
			b = append(b, ping("abcdefgh")...)
		case 1:
			b = append(b, settingsBytes()...)
		case 2:
			b = append(b, frame.Put(api.Frame{Type: api.WindowFrame, Stream: 3, Pad: -1})...)
		case 3:
			b = append(b, whole(byte(20+r.Intn(236)), byte(r.Intn(256)), r.Uint32(), n)...)
		case 4:
			b = append(b, frame.Put(api.Frame{Type: api.HeadersFrame, Flags: 0x28, Stream: 5, Pad: r.Intn(256), Other: 3, Alone: true, Weight: 9, Data: data(n)[:n/2]})...)
		case 5:
			b = append(b, whole(api.PriorityFrame, 0, 1, r.Intn(7))...)
		default:
			b = append(b, data(n)...)
		}
	}
	switch r.Intn(6) {
	case 0:
		b = append(b, "\x00\x40\x01\x00\x00\x00\x00\x00\x01"...)
	case 1:
		b = append(b, whole(api.PingFrame, 0, 0, 9)...)
	case 2:
		b = append(b, whole(api.DataFrame, 0, 0, 100)...)
	}
	return append(b, data(r.Intn(30))[:r.Intn(10)]...)
}

// frames are those that come of bytes that are handed in at once, as far as there is room, by the model alone.
func frames(b []byte, preface bool) []told {
	m := &model{waits: preface}
	var l []told
	for {
		b = b[m.feed(b):]
		x := m.next()
		if x.ok {
			l = append(l, x)
		} else if len(b) == 0 || m.bad {
			return l
		}
	}
}

func sameRows(a, b []told) bool {
	return slices.EqualFunc(a, b, same)
}

// cutUp hands bytes in by pieces of so many bytes, and is what came.
func cutUp(s *split.Splitter, b []byte, size func() int) []told {
	var l []told
	most := len(b) + 1 // a frame or a fault takes a byte at least
	for len(b) > 0 && !s.Bad() {
		n := min(size(), len(b))
		took := s.Feed(b[:n])
		b = b[took:]
		before := len(l)
		for x := next(s); x.ok && len(l) < most; x = next(s) {
			l = append(l, x)
		}
		if n > 0 && took == 0 && len(l) == before { // it stands still
			break
		}
	}
	return l
}

func TestP8_2EachCut(t *testing.T) {
	for _, rest := range [][]byte{
		slices.Concat(ping("abcdefgh"), settingsBytes(), data(0), data(3), whole(2, 0, 1, 4), whole(77, 8, 0, 2), data(1)),
		slices.Concat(data(3), whole(3, 0, 1, 4), whole(6, 0, 0, 9), data(3)),
		slices.Concat(data(3), whole(3, 0, 1, 4), []byte("\x00\x40\x01\x01\x02\x03\x04\x05\x06"), data(3)),
		slices.Concat(theBytes, data(3)),
	} {
		for _, preface := range []bool{false, true} {
			b := rest
			if preface {
				b = append(split.Preface(), rest...)
			}
			want := frames(b, preface)
			for i := range len(b) + 1 {
				for j := i; j <= len(b); j++ {
					sizes := []int{i, j - i, len(b) - j}
					got := cutUp(split.New(preface), b, func() int {
						if len(sizes) == 0 {
							return len(b)
						}
						n := sizes[0]
						sizes = sizes[1:]
						return n
					})
					if !sameRows(got, want) {
						t.Fatal(preface, i, j, got, want)
					}
				}
			}
		}
	}
}

func TestP8_2OneSizeOfPieces(t *testing.T) {
	r := rand.New(rand.NewSource(8))
	for range 20 {
		b := append(split.Preface(), anyFrames(r, 40)...)
		want := frames(b, true)
		if len(want) < 40 {
			t.Fatal(len(want))
		}
		for _, size := range []int{1, 2, 3, 8, 9, 10, 23, 24, 25, 100, 1000, 16383, 16392, 16393, 16394, 1 << 20} {
			if got := cutUp(split.New(true), b, func() int { return size }); !sameRows(got, want) {
				t.Fatal(size, len(got), len(want))
			}
		}
	}
}

func TestP8_2AnyPieces(t *testing.T) {
	r := rand.New(rand.NewSource(82))
	faults := map[api.Fault]int{}
	for range 300 {
		b := append(split.Preface(), anyFrames(r, r.Intn(60))...)
		if r.Intn(4) == 0 {
			b[r.Intn(len(b))] ^= byte(1 + r.Intn(255))
		}
		want := frames(b, true)
		for _, x := range want {
			faults[x.wrong]++
		}
		most := 1 << r.Intn(16)
		got := cutUp(split.New(true), b, func() int { return r.Intn(most + 1) })
		if !sameRows(got, want) {
			t.Fatal(len(got), len(want))
		}
	}
	if len(faults) < 5 {
		t.Error(faults)
	}
}

// Frames may be asked for at any time, and wait.
func TestP8_2AnyTimes(t *testing.T) {
	r := rand.New(rand.NewSource(81))
	for range 200 {
		b := append(split.Preface(), anyFrames(r, r.Intn(80))...)
		want := frames(b, true)
		p := newPair(t, true)
		var got []told
		most := 1 << r.Intn(15)
		for rest := b; len(rest) > 0 && !p.s.Bad(); {
			for range r.Intn(4) {
				n := min(r.Intn(most+1), len(rest))
				rest = rest[p.feed(rest[:n]):]
			}
			for range r.Intn(4) {
				if x := p.next(); x.ok {
					got = append(got, x)
				}
			}
		}
		if got = append(got, p.all()...); !sameRows(got, want) {
			t.Fatal(len(got), len(want))
		}
	}
}

func TestP8_2AnyBytes(t *testing.T) {
	r := rand.New(rand.NewSource(3))
	for range 20000 {
		preface := r.Intn(2) == 0
		p := newPair(t, preface)
		if preface && r.Intn(8) > 0 {
			p.feed(theBytes)
		}
		for range r.Intn(10) {
			b := make([]byte, r.Intn(40))
			r.Read(b)
			if len(b) > 9 {
				b[0], b[1], b[2], b[3] = 0, 0, byte(r.Intn(40)), byte(r.Intn(11))
			}
			p.feed(b)
			if r.Intn(3) > 0 {
				p.all()
			}
		}
		p.all()
	}
}

func TestP8_3Room(t *testing.T) {
	for _, preface := range []bool{false, true} {
		for _, n := range []int{0, 1, 9, 16384, 16392, 16393, 16394, 16395, 1 << 15, 1 << 20} {
			for _, ahead := range []int{0, 1, 9, 16392, 16393, 20000} {
				p := newPair(t, preface)
				p.feed(make([]byte, ahead))
				want := min(n, room-min(ahead, room))
				if got := p.feed(make([]byte, n)); got != want || p.s.Held() != min(ahead+n, room) {
					t.Error(n, ahead, got, p.s.Held())
				}
			}
		}
	}
}

// What stands in its way is the first bytes of what is handed in; room comes again as frames go.
func TestP8_3FirstBytes(t *testing.T) {
	p := newPair(t, false)
	row := slices.Concat(data(16000), data(300), ping("abcdefgh"), data(200))
	n := p.feed(row)
	if n != room || p.feed(row[n:]) != 0 || p.s.Held() != room {
		t.Fatal(n, p.s.Held())
	}
	if x := p.next(); !x.ok || p.s.Held() != room-16009 {
		t.Fatal(p.s.Held())
	}
	if more := p.feed(row[n:]); more != len(row)-n {
		t.Fatal(more)
	}
	if l := p.all(); len(l) != 3 || string(l[1].f.Data) != "abcdefgh" || !bytes.Equal(l[2].f.Data, data(200)[9:]) {
		t.Error(l)
	}
}

// There is room for the greatest frame, so that nothing stands still.
func TestP8_3Greatest(t *testing.T) {
	p := newPair(t, true)
	p.feed(theBytes)
	p.next()
	b := data(16384)
	for range 5 {
		if n := p.feed(append(slices.Clone(b), b...)); n != room {
			t.Fatal(n)
		}
		if x := p.next(); !x.ok || !bytes.Equal(x.f.Data, b[9:]) || p.s.Held() != 0 {
			t.Fatal(x.wrong, p.s.Held())
		}
	}
}

// It is kept as full as may be for long.
func TestP8_3AlwaysFull(t *testing.T) {
	r := rand.New(rand.NewSource(83))
	p := newPair(t, false)
	var rest []byte
	for range 3000 {
		for len(rest) < room {
			rest = append(rest, data(r.Intn(700))...)
		}
		rest = rest[p.feed(rest):]
		if p.s.Held() != room {
			t.Fatal(p.s.Held())
		}
		if x := p.next(); !x.ok || x.wrong != none {
			t.Fatal(x)
		}
	}
}
