package wssplit_test

import (
	"bytes"
	"encoding/binary"
	"math/rand"
	"slices"
	"strings"
	"testing"

	"louver/api"
	"louver/wsframe"
	"louver/wssplit"
)

const room = 14 + 4096

var (
	none     = api.Fault{}
	protocol = api.Fault{Scope: api.SocketFault, Code: 1002}
	great    = api.Fault{Scope: api.SocketFault, Code: 1009}
)

var masks = []bool{false, true}

// told is what Next tells.
type told struct {
	p     api.Piece
	wrong api.Fault
	ok    bool
}

var nothing = told{}

func next(s *wssplit.Splitter) told {
	p, wrong, ok := s.Next()
	return told{p, wrong, ok}
}

func isWrong(wrong api.Fault) told {
	return told{wrong: wrong, ok: true}
}

// same tells whether the same was told, where no bytes are none.
func same(a, b told) bool {
	p, q := a.p, b.p
	return p.Fin == q.Fin && p.Op == q.Op && p.Mask == q.Mask && p.Key == q.Key && bytes.Equal(p.Data, q.Data) &&
		a.wrong == b.wrong && a.ok == b.ok
}

func sameRows(a, b []told) bool {
	return slices.EqualFunc(a, b, same)
}

// model does what the chapter says, and shares nothing with the splitter: it reads heads by itself.
type model struct {
	held        []byte
	masked, bad bool
}

func (m *model) feed(b []byte) int {
	if m.bad {
		return 0
	}
	n := min(len(b), 4110-len(m.held))
	m.held = slices.Concat(m.held, b[:n])
	return n
}

// head is where the bytes of a frame's data begin and end, if it is told, or what is wrong.
func (m *model) head() (begin, end int, wrong api.Fault) {
	h := m.held
	if len(h) == 0 {
		return 0, 0, none
	}
	op, control := h[0]&15, h[0]&15 >= 8
	if h[0]&0x70 != 0 || op > 10 || op > 2 && op < 8 || control && h[0] < 128 {
		return 0, 0, protocol
	}
	if len(h) == 1 {
		return 0, 0, none
	}
	n, begin, least := uint64(h[1]&127), 2, uint64(0)
	if h[1] >= 128 != m.masked || control && n > 125 {
		return 0, 0, protocol
	}
	switch {
	case n == 126 && len(h) < 4, n == 127 && len(h) < 10:
		return 0, 0, none
	case n == 126:
		n, begin, least = uint64(binary.BigEndian.Uint16(h[2:])), 4, 126
	case n == 127:
		n, begin, least = binary.BigEndian.Uint64(h[2:]), 10, 65536
	}
	switch {
	case n < least, n>>63 != 0:
		return 0, 0, protocol
	case n > 4096:
		return 0, 0, great
	case m.masked:
		begin += 4
	}
	return begin, begin + int(n), none
}

func (m *model) next() told {
	if m.bad {
		return nothing
	}
	begin, end, wrong := m.head()
	switch {
	case wrong != none:
		m.held, m.bad = nil, true
		return isWrong(wrong)
	case begin == 0, end > len(m.held):
		return nothing
	}
	p := api.Piece{Fin: m.held[0] >= 128, Op: m.held[0] & 15, Mask: m.masked, Data: bytes.Clone(m.held[begin:end])}
	if m.masked {
		key := m.held[begin-4 : begin]
		p.Key = binary.BigEndian.Uint32(key)
		for i := range p.Data {
			p.Data[i] ^= key[i%4]
		}
	}
	m.held = m.held[end:]
	return told{p, none, true}
}

// pair is a splitter and its model, held against each other in every call.
type pair struct {
	t *testing.T
	s *wssplit.Splitter
	m *model
}

func newPair(t *testing.T, masked bool) *pair {
	p := &pair{t, wssplit.New(masked), &model{masked: masked}}
	p.check()
	return p
}

func (p *pair) check() {
	p.t.Helper()
	if p.s.Held() != len(p.m.held) || p.s.Held() > room || p.s.Bad() != p.m.bad {
		p.t.Fatalf("held %d, want %d; bad %v, want %v", p.s.Held(), len(p.m.held), p.s.Bad(), p.m.bad)
	}
}

func (p *pair) feed(b []byte) int {
	p.t.Helper()
	got, want := p.s.Feed(b), p.m.feed(b)
	if got != want {
		p.t.Fatalf("took %d of %d, want %d", got, len(b), want)
	}
	p.check()
	return got
}

func (p *pair) next() told {
	p.t.Helper()
	got, want := next(p.s), p.m.next()
	if !same(got, want) {
		p.t.Fatalf("told %v, want %v", got, want)
	}
	p.check()
	return got
}

// all are what is told till nothing is.
func (p *pair) all() []told {
	p.t.Helper()
	var l []told
	for x := p.next(); x.ok; x = p.next() {
		l = append(l, x)
	}
	return l
}

// anyData are bytes of which none is like the one four ahead of it.
func anyData(n int) []byte {
	b := make([]byte, n)
	for i := range b {
		b[i] = byte(i*7 + i/256 + 1)
	}
	return b
}

// piece is a frame that may be, as a splitter of these frames tells it.
func piece(op uint8, fin, masked bool, n int) api.Piece {
	p := api.Piece{Fin: fin, Op: op, Mask: masked, Data: anyData(n)}
	if masked {
		p.Key = 0x37fa213d + uint32(n)
	}
	return p
}

// put are the bytes of a binary message with n bytes.
func put(masked bool, n int) []byte {
	return wsframe.Put(piece(api.BinaryOp, true, masked, n))
}

func TestP17_1Example(t *testing.T) {
	b := []byte{0x81, 0x85, 0x37, 0xfa, 0x21, 0x3d, 0x7f, 0x9f, 0x4d, 0x51, 0x58}
	s := wssplit.New(true)
	for i, c := range b {
		if x := next(s); !same(x, nothing) || s.Held() != i {
			t.Error(i, x, s.Held())
		}
		if n := s.Feed([]byte{c}); n != 1 {
			t.Error(i, n)
		}
	}
	want := told{api.Piece{Fin: true, Op: 1, Mask: true, Key: 0x37fa213d, Data: []byte("Hello")}, none, true}
	if x := next(s); !same(x, want) || s.Held() != 0 || s.Bad() {
		t.Error(x, s.Held())
	}
	if x := next(s); !same(x, nothing) || s.Bad() {
		t.Error(x)
	}
}

func TestP17_1New(t *testing.T) {
	for _, masked := range masks {
		s := wssplit.New(masked)
		if s == nil || s.Held() != 0 || s.Bad() {
			t.Fatal(masked, s)
		}
		for _, b := range [][]byte{nil, {}} {
			if n := s.Feed(b); n != 0 || s.Held() != 0 || s.Bad() {
				t.Error(masked, n)
			}
			if x := next(s); !same(x, nothing) {
				t.Error(masked, x)
			}
		}
	}
}

// One tells nothing of what another one is told.
func TestP17_1Others(t *testing.T) {
	a, b, c := wssplit.New(false), wssplit.New(false), wssplit.New(true)
	a.Feed(put(false, 3))
	b.Feed(put(true, 3))
	c.Feed(put(false, 3))
	if x, y := next(b), next(c); x.wrong != protocol || y.wrong != protocol || !b.Bad() || !c.Bad() {
		t.Error(x, y)
	}
	if a.Bad() || a.Held() != 5 || wssplit.New(true).Held() != 0 {
		t.Error(a.Held())
	}
	if x := next(a); !same(x, told{piece(2, true, false, 3), none, true}) {
		t.Error(x)
	}
}

func TestP17_1Nil(t *testing.T) {
	var s *wssplit.Splitter
	for range 2 {
		if s.Feed([]byte("abc")) != 0 || s.Feed(nil) != 0 || s.Feed(put(true, 1)) != 0 {
			t.Error("fed")
		}
		if x := next(s); !same(x, nothing) || x.p.Data != nil {
			t.Error(x)
		}
		if s.Held() != 0 || !s.Bad() {
			t.Error(s.Held(), s.Bad())
		}
	}
}

// checkBad looks that a splitter holds, takes and tells nothing more.
func checkBad(t *testing.T, s *wssplit.Splitter) {
	t.Helper()
	for range 2 {
		if !s.Bad() || s.Held() != 0 || s.Feed([]byte("abc")) != 0 || s.Feed(nil) != 0 || s.Feed(put(true, 1)) != 0 {
			t.Fatal("isn't bad", s.Held())
		}
		if x := next(s); !same(x, nothing) || x.p.Data != nil {
			t.Fatal(x)
		}
	}
}

// wrongs are heads that tell a fault by their last byte, and not ahead of it.
var wrongs = []struct {
	masked bool
	head   string
	wrong  api.Fault
}{
	{false, "\xc2", protocol},
	{false, "\xa2", protocol},
	{false, "\x92", protocol},
	{true, "\xf1", protocol},
	{true, "\x10", protocol},
	{false, "\x83", protocol},
	{false, "\x87", protocol},
	{true, "\x03", protocol},
	{true, "\x8b", protocol},
	{true, "\x8f", protocol},
	{false, "\x08", protocol},
	{true, "\x09", protocol},
	{true, "\x0a", protocol},
	{false, "\x82\x80", protocol},
	{false, "\x82\xff", protocol},
	{true, "\x82\x00", protocol},
	{true, "\x82\x7f", protocol},
	{false, "\x88\x80", protocol},
	{true, "\x89\x05", protocol},
	{false, "\x88\x7e", protocol},
	{true, "\x89\xfe", protocol},
	{true, "\x8a\xff", protocol},
	{false, "\x82\x7e\x00\x00", protocol},
	{false, "\x82\x7e\x00\x7d", protocol},
	{true, "\x01\xfe\x00\x7d", protocol},
	{false, "\x82\x7e\x10\x01", great},
	{true, "\x02\xfe\x10\x01", great},
	{true, "\x00\xfe\xff\xff", great},
	{false, "\x82\x7f\x00\x00\x00\x00\x00\x00\x00\x00", protocol},
	{true, "\x82\xff\x00\x00\x00\x00\x00\x00\x00\x7e", protocol},
	{false, "\x82\x7f\x00\x00\x00\x00\x00\x00\xff\xff", protocol},
	{false, "\x82\x7f\x80\x00\x00\x00\x00\x00\x00\x01", protocol},
	{true, "\x82\xff\xff\xff\xff\xff\xff\xff\xff\xff", protocol},
	{false, "\x82\x7f\x00\x00\x00\x00\x00\x01\x00\x00", great},
	{true, "\x00\xff\x7f\xff\xff\xff\xff\xff\xff\xff", great},
}

// A fault is told as soon as a head tells it, and not sooner.
func TestP17_1Faults(t *testing.T) {
	for i, x := range wrongs {
		s := wssplit.New(x.masked)
		for n, c := range []byte(x.head) {
			if y := next(s); !same(y, nothing) || s.Bad() || s.Held() != n {
				t.Fatal(i, n, y)
			}
			if s.Feed([]byte{c}) != 1 {
				t.Fatal(i, n)
			}
		}
		if s.Bad() || s.Held() != len(x.head) {
			t.Error(i, "is bad ahead of telling")
		}
		if y := next(s); !same(y, isWrong(x.wrong)) || y.p.Data != nil {
			t.Error(i, y)
		}
		checkBad(t, s)
	}
}

// The frames ahead of a wrong one come first, and those behind it not at all.
func TestP17_1FaultBehindFrames(t *testing.T) {
	for i, x := range wrongs {
		p := newPair(t, x.masked)
		b := slices.Concat(put(x.masked, 3), put(x.masked, 0), []byte(x.head), put(x.masked, 5))
		if n := p.feed(b); n != len(b) {
			t.Error(i, n)
		}
		for _, n := range []int{3, 0} {
			if y := p.next(); !same(y, told{piece(2, true, x.masked, n), none, true}) {
				t.Error(i, n, y)
			}
		}
		if y := p.next(); !same(y, isWrong(x.wrong)) {
			t.Error(i, y)
		}
		checkBad(t, p.s)
	}
}

// A splitter that is full and wasn't asked tells a fault all the same.
func TestP17_1FaultWhenFull(t *testing.T) {
	for i, x := range wrongs {
		p := newPair(t, x.masked)
		if n := p.feed(append([]byte(x.head), make([]byte, 9000)...)); n != room {
			t.Error(i, n)
		}
		if y := p.next(); !same(y, isWrong(x.wrong)) {
			t.Error(i, y)
		}
		checkBad(t, p.s)
	}
}

// What isn't wrong is told as no fault, whatever its first bytes are.
func TestP17_1FirstBytes(t *testing.T) {
	for i := range 1 << 16 {
		for _, masked := range masks {
			p := newPair(t, masked)
			p.feed([]byte{byte(i >> 8)})
			p.next()
			p.feed([]byte{byte(i)})
			p.next()
		}
	}
}

// A frame comes just as it is there as a whole, of each opcode and length at the edges.
func TestP17_1Whole(t *testing.T) {
	for _, op := range []uint8{0, 1, 2, 8, 9, 10} {
		for _, fin := range masks {
			for _, masked := range masks {
				for _, n := range []int{0, 1, 2, 5, 124, 125, 126, 127, 255, 256, 4095, 4096} {
					if op >= 8 && (!fin || n > 125) {
						continue
					}
					want := piece(op, fin, masked, n)
					b := wsframe.Put(want)
					p := newPair(t, masked)
					p.feed(b[:len(b)-1])
					if x := p.next(); !same(x, nothing) || p.s.Held() != len(b)-1 {
						t.Error(op, n, x)
					}
					p.feed(b[len(b)-1:])
					if x := p.next(); !same(x, told{want, none, true}) {
						t.Error(op, n, x)
					}
					if x := p.next(); !same(x, nothing) || p.s.Held() != 0 || p.s.Bad() {
						t.Error(op, n, x)
					}
				}
			}
		}
	}
}

// One call is one frame, and its bytes are those that are taken.
func TestP17_1Row(t *testing.T) {
	for _, masked := range masks {
		row := []api.Piece{
			piece(1, false, masked, 5), piece(9, true, masked, 125), piece(0, false, masked, 0), piece(10, true, masked, 0),
			piece(0, true, masked, 300), piece(2, true, masked, 126), piece(8, true, masked, 2), piece(1, true, masked, 1),
		}
		p := newPair(t, masked)
		for _, x := range row {
			p.feed(wsframe.Put(x))
		}
		left := p.s.Held()
		for i, x := range row {
			if y := p.next(); !same(y, told{x, none, true}) {
				t.Error(i, y)
			}
			if left -= len(wsframe.Put(x)); p.s.Held() != left {
				t.Error(i, p.s.Held(), left)
			}
		}
		if x := p.next(); !same(x, nothing) || left != 0 {
			t.Error(x, left)
		}
	}
}

// What is handed in isn't changed and isn't kept; what is answered is nobody else's.
func TestP17_1Memory(t *testing.T) {
	for _, masked := range masks {
		s := wssplit.New(masked)
		b := slices.Concat(put(masked, 8), put(masked, 9), put(masked, 4))
		before := bytes.Clone(b)
		s.Feed(b)
		first := next(s)
		if !bytes.Equal(b, before) {
			t.Error("what is handed in is changed")
		}
		clear(b)
		clear(first.p.Data)
		_ = append(first.p.Data, bytes.Repeat([]byte{0xff}, 100)...)
		second := next(s)
		if !same(second, told{piece(2, true, masked, 9), none, true}) {
			t.Error(second)
		}
		_ = append(second.p.Data, bytes.Repeat([]byte{0xff}, 100)...)
		if third := next(s); !same(third, told{piece(2, true, masked, 4), none, true}) {
			t.Error(third)
		}
		for range 10 {
			s.Feed(bytes.Repeat(put(masked, 1), 500))
			for next(s).ok {
				continue
			}
		}
		if !same(second, told{piece(2, true, masked, 9), none, true}) || s.Bad() {
			t.Error(second, "what was answered is written into")
		}
	}
}

// The room behind a list that is handed in isn't written into, and bytes that come later aren't put there.
func TestP17_1RoomBehind(t *testing.T) {
	b := []byte("\x82\x03abcdefgh")
	s := wssplit.New(false)
	s.Feed(b[:4])
	s.Feed([]byte("z"))
	if x := next(s); string(x.p.Data) != "abz" || string(b) != "\x82\x03abcdefgh" {
		t.Errorf("%q %q", x.p.Data, b)
	}
}

// All rows of up to five calls over a few pieces.
func TestP17_1Rows(t *testing.T) {
	pieces := [][]byte{put(false, 0), put(true, 1), {0x82, 0x02}, {0x81}, {0x7e, 0x00}, {0x7e}, put(false, 4096), {0xf1}, nil}
	var walk func(row []int)
	walk = func(row []int) {
		for _, masked := range masks {
			p := newPair(t, masked)
			for _, call := range row {
				if call == len(pieces) {
					p.next()
				} else {
					p.feed(pieces[call])
				}
			}
		}
		if len(row) == 5 {
			return
		}
		for call := range len(pieces) + 1 {
			walk(append(slices.Clip(row), call))
		}
	}
	walk(nil)
}

// anyFrames are the bytes of frames of all kinds; behind them may stand a head that is wrong, and a frame that isn't whole.
func anyFrames(r *rand.Rand, masked bool, count int) []byte {
	var b []byte
	for range count {
		n := r.Intn(20)
		switch r.Intn(15) {
		case 0:
			n = 4096 - r.Intn(300)
		case 1:
			n = 120 + r.Intn(10)
		}
		p := piece(uint8(r.Intn(3)), r.Intn(2) == 0, masked, n)
		if r.Intn(4) == 0 {
			p = piece(uint8(8+r.Intn(3)), true, masked, min(n, 125))
		}
		b = append(b, wsframe.Put(p)...)
	}
	if r.Intn(3) == 0 {
		if x := wrongs[r.Intn(len(wrongs))]; x.masked == masked {
			b = append(b, x.head...)
		}
	}
	rest := put(masked, r.Intn(5000)%4097)
	return append(b, rest[:r.Intn(len(rest))]...)
}

// frames are those that come of bytes that are handed in as far as there is room, by the model alone.
func frames(b []byte, masked bool) []told {
	m := &model{masked: masked}
	var l []told
	for {
		b = b[m.feed(b):]
		x := m.next()
		if x.ok {
			l = append(l, x)
		} else if len(b) == 0 || m.bad {
			return l
		}
	}
}

// cutUp hands bytes in by pieces of so many bytes, and is what came.
func cutUp(s *wssplit.Splitter, b []byte, size func() int) []told {
	var l []told
	most := len(b) + 1 // a frame or a fault takes a byte at least
	for len(b) > 0 && !s.Bad() {
		n := min(size(), len(b))
		took := s.Feed(b[:n])
		b = b[took:]
		before := len(l)
		for x := next(s); x.ok && len(l) < most; x = next(s) {
			l = append(l, x)
		}
		if n > 0 && took == 0 && len(l) == before { // it stands still
			break
		}
	}
	return l
}

func TestP17_2EachCut(t *testing.T) {
	for _, masked := range masks {
		ahead := slices.Concat(put(masked, 3), put(masked, 0), wsframe.Put(piece(9, true, masked, 5)), put(masked, 130)[:2])
		rows := [][]byte{
			slices.Concat(put(masked, 1), put(masked, 126), wsframe.Put(piece(8, true, masked, 2))),
			ahead,
		}
		for _, x := range wrongs {
			if x.masked == masked {
				rows = append(rows, slices.Concat(put(masked, 3), wsframe.Put(piece(1, false, masked, 7)), []byte(x.head), put(masked, 3)))
			}
		}
		for i, b := range rows {
			want := frames(b, masked)
			for j := range len(b) + 1 {
				for k := j; k <= len(b); k++ {
					sizes := []int{j, k - j}
					got := cutUp(wssplit.New(masked), b, func() int {
						if len(sizes) == 0 {
							return len(b)
						}
						n := sizes[0]
						sizes = sizes[1:]
						return n
					})
					if !sameRows(got, want) {
						t.Fatal(masked, i, j, k, got, want)
					}
				}
			}
		}
	}
}

// Each wrong head is the same fault, however much is there when it is asked for.
func TestP17_2SameFault(t *testing.T) {
	for i, x := range wrongs {
		for more := range 20 {
			s := wssplit.New(x.masked)
			s.Feed([]byte(x.head + strings.Repeat("\xff", more)))
			if y := next(s); !same(y, isWrong(x.wrong)) {
				t.Error(i, more, y)
			}
		}
	}
}

func TestP17_2OneSizeOfPieces(t *testing.T) {
	r := rand.New(rand.NewSource(17))
	for i := range 20 {
		masked := i%2 == 0
		b := anyFrames(r, masked, 60)
		want := frames(b, masked)
		if len(want) < 60 {
			t.Fatal(len(want))
		}
		for _, size := range []int{1, 2, 3, 4, 5, 6, 7, 13, 14, 15, 100, 1000, 4095, 4096, 4104, 4109, 4110, 4111, 1 << 20} {
			if got := cutUp(wssplit.New(masked), b, func() int { return size }); !sameRows(got, want) {
				t.Fatal(size, len(got), len(want))
			}
		}
	}
}

func TestP17_2AnyPieces(t *testing.T) {
	r := rand.New(rand.NewSource(172))
	faults := map[api.Fault]int{}
	for range 1000 {
		masked := r.Intn(2) == 0
		b := anyFrames(r, masked, r.Intn(60))
		if len(b) > 0 && r.Intn(4) == 0 {
			b[r.Intn(len(b))] ^= byte(1 + r.Intn(255))
		}
		want := frames(b, masked)
		for _, x := range want {
			faults[x.wrong]++
		}
		most := 1 << r.Intn(14)
		got := cutUp(wssplit.New(masked), b, func() int { return r.Intn(most + 1) })
		if !sameRows(got, want) {
			t.Fatal(len(got), len(want))
		}
	}
	if faults[none] == 0 || faults[protocol] == 0 || faults[great] == 0 {
		t.Error(faults)
	}
}

// Frames may be asked for at any time, and wait.
func TestP17_2AnyTimes(t *testing.T) {
	r := rand.New(rand.NewSource(171))
	for range 150 {
		masked := r.Intn(2) == 0
		b := anyFrames(r, masked, r.Intn(80))
		want := frames(b, masked)
		p := newPair(t, masked)
		var got []told
		most := 1 << r.Intn(14)
		for rest := b; len(rest) > 0 && !p.s.Bad(); {
			for range r.Intn(4) {
				n := min(r.Intn(most+1), len(rest))
				rest = rest[p.feed(rest[:n]):]
			}
			for range r.Intn(4) {
				if x := p.next(); x.ok {
					got = append(got, x)
				}
			}
		}
		if got = append(got, p.all()...); !sameRows(got, want) {
			t.Fatal(len(got), len(want))
		}
	}
}

// Any bytes, mostly ones that begin as frames do.
func TestP17_2AnyBytes(t *testing.T) {
	r := rand.New(rand.NewSource(173))
	for range 30000 {
		masked := r.Intn(2) == 0
		p := newPair(t, masked)
		for range r.Intn(10) {
			b := make([]byte, r.Intn(40))
			r.Read(b)
			if len(b) > 1 && r.Intn(8) > 0 {
				b[0] = []byte{0x00, 0x01, 0x02, 0x80, 0x81, 0x82, 0x88, 0x89, 0x8a}[r.Intn(9)]
				b[1] = byte(r.Intn(45))
				if masked {
					b[1] |= 0x80
				}
			}
			p.feed(b)
			if r.Intn(3) > 0 {
				p.all()
			}
		}
		p.all()
	}
}

func TestP17_3Room(t *testing.T) {
	for _, masked := range masks {
		for _, n := range []int{0, 1, 14, 4096, 4109, 4110, 4111, 4112, 8220, 1 << 20} {
			for _, ahead := range []int{0, 1, 14, 4096, 4109, 4110, 9000} {
				p := newPair(t, masked)
				p.feed(make([]byte, ahead))
				want := min(n, room-min(ahead, room))
				if got := p.feed(make([]byte, n)); got != want || p.s.Held() != min(ahead+n, room) {
					t.Error(n, ahead, got, p.s.Held())
				}
			}
		}
	}
}

// What is held are the first bytes of what is handed in; room comes again as frames go.
func TestP17_3FirstBytes(t *testing.T) {
	for _, masked := range masks {
		p := newPair(t, masked)
		row := slices.Concat(put(masked, 4000), put(masked, 90), put(masked, 8), put(masked, 200))
		n := p.feed(row)
		if n != room || p.feed(row[n:]) != 0 || p.s.Held() != room {
			t.Fatal(n, p.s.Held())
		}
		if x := p.next(); !x.ok || p.s.Held() != room-len(put(masked, 4000)) {
			t.Fatal(p.s.Held())
		}
		if more := p.feed(row[n:]); more != len(row)-n {
			t.Fatal(more)
		}
		l := p.all()
		if len(l) != 3 {
			t.Fatal(l)
		}
		for i, size := range []int{90, 8, 200} {
			if !same(l[i], told{piece(2, true, masked, size), none, true}) {
				t.Error(l[i])
			}
		}
	}
}

// There is room for the greatest frame, so that nothing stands still.
func TestP17_3Greatest(t *testing.T) {
	for _, masked := range masks {
		p := newPair(t, masked)
		b := put(masked, 4096)
		rest := bytes.Repeat(b, 5)
		for i := range 5 {
			took := p.feed(rest)
			rest = rest[took:]
			if want := min(room, (5-i)*len(b)); p.s.Held() != want {
				t.Fatal(i, p.s.Held())
			}
			if x := p.next(); !same(x, told{piece(2, true, masked, 4096), none, true}) {
				t.Fatal(i, x)
			}
		}
		if len(rest) != 0 || p.s.Held() != 0 {
			t.Error(len(rest), p.s.Held())
		}
	}
}

// It is kept as full as may be for long.
func TestP17_3AlwaysFull(t *testing.T) {
	r := rand.New(rand.NewSource(174))
	for _, masked := range masks {
		p := newPair(t, masked)
		var rest []byte
		for range 5000 {
			for len(rest) < room {
				rest = append(rest, put(masked, r.Intn(300))...)
			}
			rest = rest[p.feed(rest):]
			if p.s.Held() != room {
				t.Fatal(p.s.Held())
			}
			if x := p.next(); !x.ok || x.wrong != none {
				t.Fatal(x)
			}
		}
	}
}
