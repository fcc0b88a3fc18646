package block_test

import (
	"bytes"
	"math"
	"math/rand"
	"reflect"
	"slices"
	"testing"

	"louver/api"
	"louver/block"
	"louver/frame"
)

var (
	none          = api.Fault{}
	protocolFault = api.Fault{Scope: api.ConnFault, Code: api.ProtocolError}
	internalFault = api.Fault{Scope: api.ConnFault, Code: api.InternalError}
	calmFault     = api.Fault{Scope: api.ConnFault, Code: api.Calm}
)

const (
	endStream  = 1
	endHeaders = 4
	maxBlock   = 8192
	maxMore    = 16
	maxFrame   = 16384
)

func headers(stream uint32, flags uint8, data string) api.Frame {
	return api.Frame{Type: api.HeadersFrame, Flags: flags, Stream: stream, Data: []byte(data), Pad: -1}
}

func more(stream uint32, flags uint8, data string) api.Frame {
	return api.Frame{Type: api.MoreFrame, Flags: flags, Stream: stream, Data: []byte(data), Pad: -1}
}

// signs are so many bytes, none of which is the one ahead of it.
func signs(n int) string {
	b := make([]byte, n)
	for i := range b {
		b[i] = byte(i % 251)
	}
	return string(b)
}

// told is what Take, Busy and Held answer.
type told struct {
	stream uint32
	block  string
	end    bool
	ok     bool
	wrong  api.Fault
	busy   bool
	held   int
}

// ask hands a gatherer a frame, and is what that answers.
func ask(g *block.Gatherer, f api.Frame) told {
	w, ok, wrong := g.Take(f)
	return told{w.Stream, string(w.Block), w.End, ok, wrong, g.Busy(), g.Held()}
}

func holds(n int) told { return told{busy: true, held: n} }

func whole(stream uint32, text string, end bool) told {
	return told{stream: stream, block: text, end: end, ok: true}
}

func bad(f api.Fault) told { return told{wrong: f} }

var passes = told{}

// model is what the chapter says of a row of frames: all those that came since a block was begun are kept, and gone through anew with each one.
type model struct {
	begun []api.Frame
	met   api.Fault
}

func (m *model) take(f api.Frame) told {
	if m.met == none {
		m.met = m.meet(f)
	}
	if m.met != none {
		m.begun = nil
		return bad(m.met)
	}
	if len(m.begun) == 0 && f.Type != api.HeadersFrame {
		return passes
	}
	m.begun = append(m.begun, f)
	text := m.text()
	first := m.begun[0]
	if f.Flags&endHeaders == 0 {
		return holds(len(text))
	}
	m.begun = nil
	return whole(first.Stream, text, first.Flags&endStream == endStream)
}

func (m *model) text() string {
	var text string
	for _, f := range m.begun {
		text += string(f.Data)
	}
	return text
}

// meet is the fault that a frame meets.
func (m *model) meet(f api.Frame) api.Fault {
	if len(m.begun) == 0 {
		if f.Type == api.MoreFrame {
			return protocolFault
		}
		if f.Type == api.HeadersFrame && len(f.Data) > maxBlock {
			return calmFault
		}
		return none
	}
	if f.Type != api.MoreFrame || f.Stream != m.begun[0].Stream {
		return protocolFault
	}
	if len(m.begun) > maxMore || len(m.text())+len(f.Data) > maxBlock {
		return calmFault
	}
	return none
}

// twin is a gatherer and a model of it.
type twin struct {
	t   *testing.T
	g   *block.Gatherer
	m   model
	row []api.Frame
}

func newTwin(t *testing.T) *twin { return &twin{t: t, g: block.New()} }

func (x *twin) take(f api.Frame) told {
	x.row = append(x.row, f)
	want := x.m.take(f)
	if got := ask(x.g, f); got != want {
		x.t.Helper()
		x.t.Fatalf("behind %v: %v, wanted %v", x.row, got, want)
	}
	return want
}

func TestP12_1New(t *testing.T) {
	for range 2 {
		if g := block.New(); g == nil || g.Busy() || g.Held() != 0 {
			t.Error(g)
		}
	}
}

// step is a frame, and what is told of it.
type step struct {
	f    api.Frame
	want told
}

func TestP12_1Take(t *testing.T) {
	ping := api.Frame{Type: api.PingFrame, Data: make([]byte, 8), Pad: -1}
	for name, row := range map[string][]step{
		"the chapter's example": {{headers(1, 0, "ab"), holds(2)}, {ping, bad(protocolFault)}},
		"one frame":             {{headers(1, endHeaders, "ab"), whole(1, "ab", false)}, {ping, passes}},
		"one frame, its end":    {{headers(3, endHeaders|endStream, "ab"), whole(3, "ab", true)}},
		"no bytes":              {{headers(1, endHeaders, ""), whole(1, "", false)}},
		"no bytes, its end":     {{headers(1, endStream, ""), holds(0)}, {more(1, endHeaders, ""), whole(1, "", true)}},
		"two frames":            {{headers(1, 0, "ab"), holds(2)}, {more(1, endHeaders, "c"), whole(1, "abc", false)}},
		"three, its end": {
			{headers(9, endStream, "ab"), holds(2)}, {more(9, 0, "cd"), holds(4)}, {more(9, endHeaders, "e"), whole(9, "abcde", true)},
		},
		"an end only the first frame tells": {{headers(1, 0, "a"), holds(1)}, {more(1, endHeaders|endStream, "b"), whole(1, "ab", false)}},
		"an end amid it isn't one":          {{headers(1, 0, "a"), holds(1)}, {more(1, endStream, "b"), holds(2)}, {more(1, endHeaders, ""), whole(1, "ab", false)}},
		"other flags":                       {{headers(1, 0xfa, "a"), holds(1)}, {more(1, 0xfb, "b"), holds(2)}, {more(1, 0xff, "c"), whole(1, "abc", false)}},
		"blocks in a row": {
			{headers(1, endStream|endHeaders, "a"), whole(1, "a", true)},
			{headers(3, 0, "b"), holds(1)}, {more(3, endHeaders, "c"), whole(3, "bc", false)},
			{ping, passes},
			{headers(1, endHeaders, "d"), whole(1, "d", false)},
			{headers(1, 0, ""), holds(0)}, {more(1, endHeaders, ""), whole(1, "", false)},
		},
		"CONTINUATION alone":            {{more(1, 0, "a"), bad(protocolFault)}, {headers(1, endHeaders, "a"), bad(protocolFault)}},
		"CONTINUATION alone, the end":   {{more(1, endHeaders, ""), bad(protocolFault)}, {ping, bad(protocolFault)}},
		"CONTINUATION behind the whole": {{headers(1, endHeaders, "a"), whole(1, "a", false)}, {more(1, endHeaders, "b"), bad(protocolFault)}},
		"CONTINUATION of another one":   {{headers(1, 0, "a"), holds(1)}, {more(3, endHeaders, "b"), bad(protocolFault)}, {more(1, endHeaders, "b"), bad(protocolFault)}},
		"HEADERS amid a block":          {{headers(1, 0, "a"), holds(1)}, {headers(1, endHeaders, "b"), bad(protocolFault)}},
		"HEADERS of another one":        {{headers(1, 0, "a"), holds(1)}, {headers(3, endHeaders, "b"), bad(protocolFault)}},
		"DATA amid a block":             {{headers(1, 0, "a"), holds(1)}, {api.Frame{Type: api.DataFrame, Stream: 1}, bad(protocolFault)}},
		"an unknown type amid a block":  {{headers(1, 0, "a"), holds(1)}, {api.Frame{Type: 99, Stream: 1}, bad(protocolFault)}},
		"any streams": {
			{headers(0, 0, "a"), holds(1)}, {more(0, endHeaders, "b"), whole(0, "ab", false)},
			{headers(math.MaxUint32, 0, "a"), holds(1)}, {more(math.MaxUint32, endHeaders, "b"), whole(math.MaxUint32, "ab", false)},
			{headers(1, 0, "a"), holds(1)}, {more(1|1<<31, endHeaders, "b"), bad(protocolFault)},
		},
	} {
		g := block.New()
		for i, x := range row {
			if got := ask(g, x.f); got != x.want {
				t.Errorf("%s: %d: %v, wanted %v", name, i, got, x.want)
			}
		}
	}
}

// eachFrame calls f with frames of all types and flags.
func eachFrame(stream uint32, f func(api.Frame)) {
	for kind := range 256 {
		for flags := range 256 {
			f(api.Frame{Type: uint8(kind), Flags: uint8(flags), Stream: stream, Data: []byte("bc"), Pad: -1})
		}
	}
}

func TestP12_1Idle(t *testing.T) {
	eachFrame(5, func(f api.Frame) {
		want := passes
		switch {
		case f.Type == 9:
			want = bad(protocolFault)
		case f.Type == 1 && f.Flags&4 == 4:
			want = whole(5, "bc", f.Flags&1 == 1)
		case f.Type == 1:
			want = holds(2)
		}
		if got := ask(block.New(), f); got != want {
			t.Fatalf("%v: %v, wanted %v", f, got, want)
		}
	})
}

func TestP12_1Begun(t *testing.T) {
	for _, stream := range []uint32{0, 5, 7, 1<<31 + 5} {
		for _, end := range []uint8{0, endStream} {
			eachFrame(stream, func(f api.Frame) {
				want := bad(protocolFault)
				switch {
				case f.Type != 9 || stream != 5:
				case f.Flags&4 == 4:
					want = whole(5, "abc", end == endStream)
				default:
					want = holds(3)
				}
				g := block.New()
				g.Take(headers(5, end, "a"))
				if got := ask(g, f); got != want {
					t.Fatalf("%v: %v, wanted %v", f, got, want)
				}
			})
		}
	}
}

// What passes leaves it as it is.
func TestP12_1Passes(t *testing.T) {
	g := block.New()
	eachFrame(5, func(f api.Frame) {
		if f.Type == api.HeadersFrame || f.Type == api.MoreFrame {
			return
		}
		if got := ask(g, f); got != passes {
			t.Fatal(f, got)
		}
	})
	if got := ask(g, headers(5, endHeaders, "a")); got != whole(5, "a", false) {
		t.Error(got)
	}
}

// Of a frame its type, flags, stream and Data count, and nothing else.
func TestP12_1OtherFields(t *testing.T) {
	x := newTwin(t)
	for _, f := range []api.Frame{headers(1, endStream, "ab"), more(1, 0, "cd"), more(1, endHeaders, "ef"), headers(3, endHeaders, "g"), {Type: api.DataFrame}, more(1, 0, "")} {
		f.Pad, f.Code, f.Other, f.Weight, f.Alone, f.Window = 255, 7, 3, 200, true, 9
		f.Settings = []api.Setting{{ID: 4, Value: 1}}
		x.take(f)
	}
}

// A block of just the most bytes, and of one more, in frames of each kind of row.
func TestP12_1MaxBlock(t *testing.T) {
	for _, flags := range []uint8{0, endHeaders} {
		for n := maxBlock - 2; n <= maxBlock+2; n++ {
			text := signs(n)
			want := bad(calmFault)
			if n <= maxBlock && flags == 0 {
				want = holds(n)
			} else if n <= maxBlock {
				want = whole(1, text, false)
			}
			if got := ask(block.New(), headers(1, flags, text)); got != want {
				t.Error("one frame", flags, n, got.wrong, got.held)
			}
			for _, first := range []int{0, 1, 4096, maxBlock - 2} {
				g := block.New()
				g.Take(headers(1, 0, text[:first]))
				if got := ask(g, more(1, flags, text[first:])); got != want {
					t.Error("two frames", flags, n, first, got.wrong, got.held)
				}
			}
			g := block.New()
			g.Take(headers(1, 0, text[:500]))
			for i := range 14 {
				if got := ask(g, more(1, 0, text[500*(i+1):500*(i+2)])); got != holds(500*(i+2)) {
					t.Fatal(i, got.wrong, got.held)
				}
			}
			if got := ask(g, more(1, flags, text[7500:])); got != want {
				t.Error("sixteen frames", flags, n, got.wrong, got.held)
			}
		}
	}
	for _, n := range []int{maxFrame, maxFrame + 1, 1 << 20} {
		if got := ask(block.New(), headers(1, endHeaders, signs(n))); got != bad(calmFault) {
			t.Error(n, got.wrong)
		}
	}
}

// A block that is full goes on with frames that have no bytes.
func TestP12_1FullBlock(t *testing.T) {
	text := signs(maxBlock)
	g := block.New()
	g.Take(headers(1, endStream, text))
	for range 3 {
		if got := ask(g, more(1, 0, "")); got != holds(maxBlock) {
			t.Fatal(got.wrong, got.held)
		}
	}
	if got := ask(g, more(1, endHeaders, "")); got != whole(1, text, true) {
		t.Error(got.wrong)
	}
	g.Take(headers(1, 0, text))
	if got := ask(g, more(1, endHeaders, "x")); got != bad(calmFault) {
		t.Error(got.wrong)
	}
}

func TestP12_1MaxMore(t *testing.T) {
	for _, text := range []string{"", "a"} {
		for behind := range 20 {
			for _, last := range []uint8{0, endHeaders} {
				x := newTwin(t)
				x.take(headers(1, 0, text))
				var got told
				for i := range behind {
					flags := uint8(0)
					if i == behind-1 {
						flags = last
					}
					got = x.take(more(1, flags, text))
				}
				if tooMany := behind > 16; tooMany != (got.wrong == calmFault) || !tooMany && behind > 0 && got.ok != (last == endHeaders) {
					t.Error(behind, last, got)
				}
			}
		}
	}
}

// Each block is counted anew: its bytes, its frames, its end.
func TestP12_1Anew(t *testing.T) {
	g := block.New()
	text := signs(maxBlock)
	for i := range 5 {
		stream, end := uint32(2*i+1), uint8(i%2)
		g.Take(headers(stream, end, text[:maxBlock-maxMore]))
		for j := range maxMore - 1 {
			if got := ask(g, more(stream, 0, text[maxBlock-maxMore+j:][:1])); got != holds(maxBlock-maxMore+j+1) {
				t.Fatal(i, j, got.wrong, got.held)
			}
		}
		if got := ask(g, more(stream, endHeaders, text[maxBlock-1:])); got != whole(stream, text, end == endStream) {
			t.Fatal(i, got.wrong, got.held)
		}
	}
}

// What comes of a wrong frame is PROTOCOL_ERROR, also where it would be too much.
func TestP12_1WhichFirst(t *testing.T) {
	great := signs(maxBlock + 1)
	for i, row := range [][]api.Frame{
		{more(1, endHeaders, great)},
		{headers(1, 0, "a"), more(3, 0, great)},
		{headers(1, 0, "a"), headers(1, endHeaders, great)},
		{headers(1, 0, "a"), {Type: api.DataFrame, Stream: 1, Data: []byte(great)}},
		append(slices.Concat([]api.Frame{headers(1, 0, "")}, slices.Repeat([]api.Frame{more(1, 0, "")}, 16)), more(3, 0, "")),
		append(slices.Concat([]api.Frame{headers(1, 0, "")}, slices.Repeat([]api.Frame{more(1, 0, "")}, 16)), api.Frame{Type: api.PingFrame}),
	} {
		x := newTwin(t)
		var got told
		for _, f := range row {
			got = x.take(f)
		}
		if got.wrong != protocolFault {
			t.Error(i, got)
		}
	}
	// A frame of another type is as great as it likes, while no block is begun.
	if got := ask(block.New(), api.Frame{Type: api.DataFrame, Stream: 1, Data: []byte(great)}); got != passes {
		t.Error(got.wrong)
	}
}

// Behind a fault it is told again of whatever comes.
func TestP12_1BehindFaults(t *testing.T) {
	for want, row := range map[api.Fault][]api.Frame{
		protocolFault: {headers(1, 0, "abc"), more(3, 0, "")},
		calmFault:     {headers(1, 0, "abc"), more(1, endHeaders, signs(maxBlock))},
	} {
		g := block.New()
		for _, f := range row {
			g.Take(f)
		}
		again := func(f api.Frame) {
			if got := ask(g, f); got != bad(want) {
				t.Fatalf("%v: %v, wanted %v", f, got, want)
			}
		}
		again(headers(1, 0, signs(maxBlock+1)))
		again(more(1, endHeaders, signs(maxBlock+1)))
		eachFrame(1, again)
		eachFrame(3, again)
	}
}

func TestP12_1Nil(t *testing.T) {
	var g *block.Gatherer
	for range 2 {
		eachFrame(1, func(f api.Frame) {
			if got := ask(g, f); got != bad(internalFault) {
				t.Fatal(f, got)
			}
		})
	}
	if got := ask(g, api.Frame{}); got != bad(internalFault) {
		t.Error(got)
	}
}

// choices are frames of which rows are made.
var choices = []api.Frame{
	headers(1, 0, "a"),
	headers(1, endHeaders|endStream, "bc"),
	headers(3, endStream, ""),
	headers(3, 0, string(make([]byte, maxBlock-2))),
	headers(1, endHeaders, string(make([]byte, maxBlock+1))),
	more(1, 0, "d"),
	more(1, endHeaders, "ef"),
	more(3, endStream, "gh"),
	more(3, endHeaders, "i"),
	{Type: api.DataFrame, Flags: endHeaders, Stream: 1, Data: []byte("j"), Pad: -1},
	{Type: api.PingFrame, Data: []byte("klmnopqr"), Pad: -1},
}

// All rows of up to five calls.
func TestP12_1Rows(t *testing.T) {
	rows := 1
	for range 5 {
		rows *= len(choices)
	}
	for row := range rows {
		x := newTwin(t)
		for range 5 {
			x.take(choices[row%len(choices)])
			row /= len(choices)
		}
	}
}

func TestP12_1Any(t *testing.T) {
	r := rand.New(rand.NewSource(12))
	seen := map[told]int{}
	for range 3000 {
		x := newTwin(t)
		stream := uint32(1)
		for range 60 {
			f := headers(stream, uint8(r.Intn(256)), signs(r.Intn(40)))
			if x.g.Busy() {
				f.Type = api.MoreFrame
				f.Flags &^= uint8(r.Intn(2) * endHeaders)
			}
			switch r.Intn(80) {
			case 0:
				f.Type = uint8(r.Intn(11))
			case 1:
				f.Stream += 2
			case 2, 3, 4:
				f.Data = []byte(signs(r.Intn(maxBlock + 100)))
			}
			got := x.take(f)
			seen[told{ok: got.ok, end: got.end, wrong: got.wrong, busy: got.busy}]++
			if got.ok {
				stream += uint32(2 * r.Intn(2))
			}
		}
	}
	if len(seen) != 6 { // whole ones with and without an end, begun ones, what passes, both faults
		t.Error(seen)
	}
}

// Two gatherers know nothing of each other.
func TestP12_1Apart(t *testing.T) {
	a, b := newTwin(t), newTwin(t)
	a.take(headers(1, 0, "a"))
	b.take(more(1, 0, "b"))
	a.take(more(1, 0, "c"))
	b.take(headers(1, 0, "d"))
	a.take(more(1, endHeaders, "e"))
}

// Whoever writes into what was handed in, or answered, changes nothing.
func TestP12_1NothingShared(t *testing.T) {
	first, second := headers(1, 0, "abcd"), more(1, 0, "efgh")
	last := more(1, endHeaders, "ij")
	g := block.New()
	g.Take(first)
	clear(first.Data)
	g.Take(second)
	clear(second.Data)
	w, ok, _ := g.Take(last)
	clear(last.Data)
	if !ok || string(w.Block) != "abcdefghij" {
		t.Fatal(w)
	}
	g.Take(headers(3, 0, "klmnopqrst"))
	if string(w.Block) != "abcdefghij" {
		t.Error(w)
	}
	clear(w.Block[:cap(w.Block)])
	if v, ok, _ := g.Take(more(3, endHeaders, "u")); !ok || string(v.Block) != "klmnopqrstu" {
		t.Error(v)
	}
	data := []byte("abcdefgh")
	g = block.New()
	g.Take(api.Frame{Type: api.HeadersFrame, Stream: 1, Data: data[:2]})
	if w, _, _ := g.Take(more(1, endHeaders, "xy")); string(w.Block) != "abxy" || string(data) != "abcdefgh" {
		t.Error(w, string(data))
	}
}

// pieces are a text's bytes, by so many each.
func pieces(text string, most int) []string {
	var l []string
	for len(text) > most {
		l = append(l, text[:most])
		text = text[most:]
	}
	return append(l, text)
}

// cuts are the frames that the chapter lets a block be cut into, where most is one that counts.
func cuts(w block.Whole, most int) []api.Frame {
	var l []api.Frame
	for _, x := range pieces(string(w.Block), most) {
		l = append(l, more(w.Stream, 0, x))
	}
	l[0].Type = api.HeadersFrame
	if w.End {
		l[0].Flags |= endStream
	}
	l[len(l)-1].Flags |= endHeaders
	return l
}

// same tells whether two rows of frames are the same, where no bytes are none.
func same(a, b []api.Frame) bool {
	return slices.EqualFunc(a, b, func(x, y api.Frame) bool {
		equal := bytes.Equal(x.Data, y.Data)
		x.Data, y.Data = nil, nil
		return equal && reflect.DeepEqual(x, y)
	})
}

func checkCut(t *testing.T, w block.Whole, most, counts int) {
	before := bytes.Clone(w.Block)
	for range 2 {
		if got, want := block.Cut(w, most), cuts(w, counts); !same(got, want) {
			t.Helper()
			t.Fatal(w.Stream, len(w.Block), w.End, most, len(got), len(want))
		}
	}
	if !bytes.Equal(before, w.Block) {
		t.Error("changed", w.Stream, most)
	}
}

func TestP12_1CutExamples(t *testing.T) {
	for i, x := range []struct {
		w    block.Whole
		most int
		want []api.Frame
	}{
		{block.Whole{}, 10, []api.Frame{headers(0, 4, "")}},
		{block.Whole{Stream: 1, End: true}, 1, []api.Frame{headers(1, 5, "")}},
		{block.Whole{Stream: 1, Block: []byte("a")}, 1, []api.Frame{headers(1, 4, "a")}},
		{block.Whole{Stream: 1, Block: []byte("ab"), End: true}, 1, []api.Frame{headers(1, 1, "a"), more(1, 4, "b")}},
		{block.Whole{Stream: 3, Block: []byte("abcdef")}, 3, []api.Frame{headers(3, 0, "abc"), more(3, 4, "def")}},
		{block.Whole{Stream: 3, Block: []byte("abcdefg"), End: true}, 3, []api.Frame{headers(3, 1, "abc"), more(3, 0, "def"), more(3, 4, "g")}},
		{block.Whole{Stream: 3, Block: []byte("abc")}, 0, []api.Frame{headers(3, 0, "a"), more(3, 0, "b"), more(3, 4, "c")}},
		{block.Whole{Stream: 3, Block: []byte("abc")}, -7, []api.Frame{headers(3, 0, "a"), more(3, 0, "b"), more(3, 4, "c")}},
		{block.Whole{Stream: 3, Block: []byte("abc")}, math.MaxInt, []api.Frame{headers(3, 4, "abc")}},
	} {
		if got := block.Cut(x.w, x.most); !same(got, x.want) {
			t.Errorf("%d: %v, wanted %v", i, got, x.want)
		}
	}
}

func TestP12_1Cut(t *testing.T) {
	for _, stream := range []uint32{0, 1, 2, math.MaxInt32, math.MaxUint32} {
		for _, end := range []bool{false, true} {
			for n := range 30 {
				w := block.Whole{Stream: stream, Block: []byte(signs(n)), End: end}
				for _, most := range []int{math.MinInt, -1 << 32, -1, 0} {
					checkCut(t, w, most, 1)
				}
				for most := 1; most < 32; most++ {
					checkCut(t, w, most, most)
				}
				for _, most := range []int{maxFrame, maxFrame + 1, 1<<32 + 1, math.MaxInt} {
					checkCut(t, w, most, maxFrame)
				}
			}
		}
	}
}

func TestP12_1CutGreat(t *testing.T) {
	for _, n := range []int{maxBlock - 1, maxBlock, maxBlock + 1, maxFrame - 1, maxFrame, maxFrame + 1, 2 * maxFrame, 2*maxFrame + 1, 100000} {
		for _, end := range []bool{false, true} {
			w := block.Whole{Stream: 7, Block: []byte(signs(n)), End: end}
			for _, most := range []int{1, 2, 482, maxFrame - 1, maxFrame} {
				checkCut(t, w, most, most)
			}
			for _, most := range []int{maxFrame + 1, 1 << 24, 1<<32 + 1, math.MaxInt} {
				checkCut(t, w, most, maxFrame)
			}
			checkCut(t, w, math.MinInt, 1)
		}
	}
}

// Its frames may be, by layer 7.
func TestP12_1CutMay(t *testing.T) {
	for _, stream := range []uint32{1, 2, math.MaxInt32} {
		for _, n := range []int{0, 1, 100, maxBlock, maxFrame, maxFrame + 1} {
			for _, most := range []int{1, 99, maxFrame, math.MaxInt} {
				for i, f := range block.Cut(block.Whole{Stream: stream, Block: make([]byte, n), End: n%2 == 0}, most) {
					if !frame.May(f) {
						t.Fatal(stream, n, most, i)
					}
				}
			}
		}
	}
}

// The frames have memory of their own: each one, to its last byte.
func TestP12_1CutNothingShared(t *testing.T) {
	w := block.Whole{Stream: 1, Block: []byte("abcdefgh")}
	l := block.Cut(w, 3)
	clear(w.Block)
	want := []string{"abc", "def", "gh"}
	for i, f := range l {
		if string(f.Data) != want[i] {
			t.Fatal(i, string(f.Data))
		}
		clear(f.Data[:cap(f.Data)])
		_ = append(f.Data, "xxxxxxxx"...)
	}
	w.Block = []byte("abcdefgh")
	l = block.Cut(w, 3)
	clear(l[0].Data[:cap(l[0].Data)])
	_ = append(l[0].Data, "xxxxxxxx"...)
	if string(w.Block) != "abcdefgh" || string(l[1].Data) != "def" || string(l[2].Data) != "gh" {
		t.Error(string(w.Block), l)
	}
}

// checkBack cuts a block, and gathers it; its frames go as bytes, where those of layer 7 may.
func checkBack(t *testing.T, g *block.Gatherer, w block.Whole, most int, written bool) {
	t.Helper()
	l := block.Cut(w, most)
	held := 0
	for i, f := range l {
		if written {
			got, wrong := frame.Get(frame.Put(f))
			if wrong != none {
				t.Fatal(i, wrong)
			}
			f = got
		}
		held += len(f.Data)
		want := holds(held)
		if i == len(l)-1 {
			want = whole(w.Stream, string(w.Block), w.End)
		}
		if got := ask(g, f); got != want {
			t.Fatal(w.Stream, len(w.Block), most, i, got.wrong, got.held, held)
		}
	}
}

// least is the lowest most that cuts a block into at most MaxMore frames more.
func least(n int) int { return max((n+maxMore)/(maxMore+1), 1) }

func TestP12_2ThereAndBack(t *testing.T) {
	g := block.New()
	for _, n := range []int{0, 1, 2, 16, 17, 18, 33, 34, 35, 100, 1000, 4096, 8175, 8176, 8177, maxBlock - 1, maxBlock} {
		for _, end := range []bool{false, true} {
			w := block.Whole{Stream: uint32(n) + 1, Block: []byte(signs(n)), End: end}
			for most := least(n); most <= n+1; most++ {
				checkBack(t, g, w, most, most%64 == 0)
			}
			for _, most := range []int{maxFrame - 1, maxFrame, maxFrame + 1, math.MaxInt} {
				checkBack(t, g, w, most, true)
			}
			if n <= maxMore+1 {
				checkBack(t, g, w, 0, true)
				checkBack(t, g, w, math.MinInt, true)
			}
		}
	}
}

func TestP12_2AnyBlocks(t *testing.T) {
	r := rand.New(rand.NewSource(122))
	g := block.New()
	for range 3000 {
		b := make([]byte, r.Intn(maxBlock>>r.Intn(13)+1))
		r.Read(b)
		w := block.Whole{Stream: r.Uint32(), Block: b, End: r.Intn(2) == 0}
		if r.Intn(2) == 0 {
			w.Stream = w.Stream>>1 | 1
		}
		most := least(len(b)) + r.Intn(len(b)+2)>>r.Intn(10)
		checkBack(t, g, w, most, w.Stream != 0 && w.Stream <= api.MaxStream)
	}
}

// One frame more, or one byte more, isn't gathered.
func TestP12_2TooMuch(t *testing.T) {
	for i, x := range []struct{ n, most int }{{18, 1}, {18, 0}, {35, 2}, {maxBlock, 481}, {maxBlock + 1, maxFrame}, {maxBlock + 1, 482}, {maxBlock + 1, 1000}} {
		g := block.New()
		var got told
		l := block.Cut(block.Whole{Stream: 1, Block: []byte(signs(x.n))}, x.most)
		for j, f := range l {
			got = ask(g, f)
			if last := j == len(l)-1; got.ok || last != (got.wrong == calmFault) {
				t.Fatal(i, j, got.wrong)
			}
		}
	}
}
