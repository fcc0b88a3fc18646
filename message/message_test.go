package message_test

import (
	"bytes"
	"math"
	"math/rand"
	"slices"
	"strings"
	"testing"
	"unicode/utf8"

	"louver/api"
	"louver/message"
	"louver/wsframe"
)

const (
	more = 0
	text = 1
	data = 2
	shut = 8
	ping = 9
	pong = 10
)

const (
	maxMessage = 4096
	maxPiece   = 4096
	reasonRoom = 123
)

var answers = []bool{false, true}

// told is what Take, Held and Over answer.
type told struct {
	kind uint8
	text bool
	data string
	code uint32
	ok   bool
	held int
	over bool
}

// ask hands a gatherer a frame, and is what that answers.
func ask(g *message.Gatherer, p api.Piece) told {
	n, ok := g.Take(p)
	return told{n.Kind, n.Text, string(n.Data), n.Code, ok, g.Held(), g.Over()}
}

func part(op uint8, s string) api.Piece { return api.Piece{Op: op, Data: []byte(s)} }

func last(op uint8, s string) api.Piece { return api.Piece{Fin: true, Op: op, Data: []byte(s)} }

func holds(n int) told { return told{held: n} }

func isMessage(isText bool, s string) told {
	return told{kind: api.GotMessage, text: isText, data: s, ok: true}
}

func isControl(kind uint8, s string, held int) told {
	return told{kind: kind, data: s, ok: true, held: held}
}

func isClose(code uint32, reason string) told {
	return told{kind: api.GotClose, data: reason, code: code, ok: true, over: true}
}

func isBad(code uint32) told { return told{kind: api.GotBad, code: code, ok: true, over: true} }

var silent = told{over: true}

// model does what the chapter says: it keeps all frames of the message that is begun, and goes through them anew with each one.
type model struct {
	begun bool
	text  bool
	parts []string
	over  bool
}

func (m *model) take(p api.Piece) told {
	if m.over {
		return silent
	}
	x := m.tell(p.Op, p.Fin, string(p.Data))
	x.ok = x.kind != 0
	x.over = x.kind == api.GotClose || x.kind == api.GotBad
	if x.over {
		*m = model{over: true}
	}
	x.held = len(strings.Join(m.parts, ""))
	return x
}

func (m *model) tell(op uint8, fin bool, s string) told {
	switch op {
	case text, data:
		if m.begun {
			return isBad(1002)
		}
		m.begun, m.text = true, op == text
		return m.add(fin, s)
	case more:
		if !m.begun {
			return isBad(1002)
		}
		return m.add(fin, s)
	case ping:
		return told{kind: api.GotPing, data: s}
	case pong:
		return told{kind: api.GotPong, data: s}
	case shut:
		return shuts(s)
	}
	return isBad(1002)
}

func (m *model) add(fin bool, s string) told {
	m.parts = append(m.parts, s)
	all := strings.Join(m.parts, "")
	switch {
	case len(all) > maxMessage:
		return isBad(1009)
	case m.text && !mayBegin(all), m.text && fin && !utf8.ValidString(all):
		return isBad(1007)
	case !fin:
		return told{}
	}
	x := isMessage(m.text, all)
	*m = model{}
	return x
}

// shuts is what a close tells.
func shuts(s string) told {
	switch {
	case s == "":
		return isClose(1005, "")
	case len(s) == 1, !mayTell(uint32(s[0])*256 + uint32(s[1])):
		return isBad(1002)
	case !utf8.ValidString(s[2:]):
		return isBad(1007)
	}
	return isClose(uint32(s[0])*256+uint32(s[1]), s[2:])
}

// mayBegin tells whether a text may begin so.
func mayBegin(s string) bool {
	for s != "" {
		r, n := utf8.DecodeRuneInString(s)
		if r == utf8.RuneError && n == 1 {
			return !utf8.FullRuneInString(s)
		}
		s = s[n:]
	}
	return true
}

// mayTell is the chapter's row of codes that may not be told, the other way.
func mayTell(code uint32) bool {
	switch {
	case code < 1000, 1004 <= code && code <= 1006, 1015 <= code && code <= 2999, code > 4999:
		return false
	}
	return true
}

// twin is a gatherer and its model, held against each other in every call.
type twin struct {
	t   *testing.T
	g   *message.Gatherer
	m   model
	row []api.Piece
}

func newTwin(t *testing.T) *twin { return &twin{t: t, g: message.New()} }

func (x *twin) take(p api.Piece) told {
	want := x.m.take(p)
	got := ask(x.g, p)
	if got != want {
		x.t.Helper()
		x.t.Fatalf("%.300v behind %.300v: %.300v, wanted %.300v", p, x.row, got, want)
	}
	x.row = append(x.row, p)
	return got
}

// step is a frame, and what is told by it.
type step struct {
	p    api.Piece
	want told
}

func checkSteps(t *testing.T, name string, steps ...step) {
	t.Helper()
	g := message.New()
	for i, s := range steps {
		if got := ask(g, s.p); got != s.want {
			t.Errorf("%s, step %d: %.200v, wanted %.200v", name, i, got, s.want)
		}
	}
}

func TestP18_1Example(t *testing.T) {
	checkSteps(t, "a close", step{last(shut, "\x03\xe8bye"), isClose(1000, "bye")}, step{last(data, "x"), silent})
}

func TestP18_1New(t *testing.T) {
	g := message.New()
	if g == nil || g.Held() != 0 || g.Over() {
		t.Fatal(g)
	}
}

func TestP18_1Nil(t *testing.T) {
	var g *message.Gatherer
	for op := range 256 {
		for _, fin := range answers {
			n, ok := g.Take(api.Piece{Fin: fin, Op: uint8(op), Data: []byte("\x03\xe8")})
			if n.Kind != 0 || n.Text || n.Data != nil || n.Code != 0 || ok || g.Held() != 0 || !g.Over() {
				t.Error(op, fin, n, ok)
			}
		}
	}
}

// One is told nothing of what another one is.
func TestP18_1Others(t *testing.T) {
	a, b, c := message.New(), message.New(), message.New()
	a.Take(part(text, "a"))
	b.Take(last(3, ""))
	c.Take(part(data, "\xff"))
	if a.Over() || a.Held() != 1 || c.Over() || message.New().Over() || message.New().Held() != 0 {
		t.Error(a.Held(), c.Held())
	}
	if x := ask(a, last(more, "b")); x != isMessage(true, "ab") {
		t.Error(x)
	}
	if x := ask(c, last(more, "d")); x != isMessage(false, "\xffd") {
		t.Error(x)
	}
}

func TestP18_1Messages(t *testing.T) {
	checkSteps(t, "of one frame",
		step{last(text, "Hello"), isMessage(true, "Hello")},
		step{last(data, "\xff\x00"), isMessage(false, "\xff\x00")},
		step{last(text, ""), isMessage(true, "")},
		step{last(data, ""), isMessage(false, "")},
		step{last(text, "\u20ac"), isMessage(true, "\u20ac")})
	checkSteps(t, "of several frames",
		step{part(text, "Hel"), holds(3)},
		step{last(more, "lo"), isMessage(true, "Hello")},
		step{part(data, "\xe2"), holds(1)},
		step{part(more, ""), holds(1)},
		step{part(more, "\xff"), holds(2)},
		step{last(more, "\x82"), isMessage(false, "\xe2\xff\x82")},
		step{part(text, "\xe2"), holds(1)},
		step{part(more, "\x82"), holds(2)},
		step{last(more, "\xac"), isMessage(true, "\u20ac")})
	checkSteps(t, "begun without bytes",
		step{part(text, ""), holds(0)},
		step{part(more, ""), holds(0)},
		step{last(more, ""), isMessage(true, "")},
		step{part(data, ""), holds(0)},
		step{last(more, "x"), isMessage(false, "x")})
	checkSteps(t, "with others between",
		step{part(text, "\xf0\x90"), holds(2)},
		step{last(ping, "\xff"), isControl(api.GotPing, "\xff", 2)},
		step{part(more, "\x8d"), holds(3)},
		step{last(pong, "p"), isControl(api.GotPong, "p", 3)},
		step{last(ping, ""), isControl(api.GotPing, "", 3)},
		step{last(more, "\x88"), isMessage(true, "\U00010348")},
		step{last(pong, ""), isControl(api.GotPong, "", 0)})
}

func TestP18_1Order(t *testing.T) {
	for _, op := range []uint8{text, data} {
		for _, second := range []uint8{text, data} {
			for _, fin := range answers {
				for _, s := range []string{"", "x", "\xff", strings.Repeat("x", 5000)} {
					wrong := api.Piece{Fin: fin, Op: second, Data: []byte(s)}
					checkSteps(t, "begun twice", step{part(op, "ab"), holds(2)}, step{wrong, isBad(1002)}, step{last(more, ""), silent})
					checkSteps(t, "begun twice, without bytes", step{part(op, ""), holds(0)}, step{wrong, isBad(1002)})
				}
			}
		}
	}
	for _, fin := range answers {
		for _, s := range []string{"", "x", "\xff", strings.Repeat("x", 5000)} {
			wrong := api.Piece{Fin: fin, Op: more, Data: []byte(s)}
			checkSteps(t, "goes on with none", step{wrong, isBad(1002)}, step{last(text, "x"), silent})
			checkSteps(t, "goes on behind a message", step{last(text, "x"), isMessage(true, "x")}, step{wrong, isBad(1002)})
			checkSteps(t, "goes on behind one of two frames",
				step{part(data, "x"), holds(1)}, step{last(more, "y"), isMessage(false, "xy")}, step{wrong, isBad(1002)})
			checkSteps(t, "goes on behind a ping", step{last(ping, "x"), isControl(api.GotPing, "x", 0)}, step{wrong, isBad(1002)})
		}
	}
}

// Each opcode, idle and while a message is begun, whatever else its frame is.
func TestP18_1Opcodes(t *testing.T) {
	begun := [][]api.Piece{nil, {part(text, "ab")}, {part(data, "")}, {part(text, ""), part(more, "c")}, {last(data, "z")}}
	for op := range 256 {
		for _, ahead := range begun {
			for i := range 4 {
				for _, s := range []string{"", "a", "\x03\xe8", "\x03\xe8\xff", "\x00\x00z", strings.Repeat("q", 126), strings.Repeat("q", 4097)} {
					x := newTwin(t)
					for _, p := range ahead {
						x.take(p)
					}
					p := api.Piece{Fin: i%2 == 0, Op: uint8(op), Mask: i < 2, Data: []byte(s)}
					if p.Mask {
						p.Key = 0x01020304
					}
					got := x.take(p)
					if (op > 2 && op < 8 || op > 10) && got != isBad(1002) {
						t.Fatal(op, got)
					}
					x.take(last(ping, "behind"))
					x.take(last(more, "behind"))
				}
			}
		}
	}
}

// A mask is the frame's, not the message's: its bytes are there unmasked.
func TestP18_1Masked(t *testing.T) {
	g := message.New()
	for i, p := range []api.Piece{last(ping, "p"), part(text, "a"), last(more, "b")} {
		p.Mask, p.Key = true, 0xffffffff
		want := []told{isControl(api.GotPing, "p", 0), holds(1), isMessage(true, "ab")}[i]
		if x := ask(g, p); x != want {
			t.Error(i, x)
		}
	}
}

func TestP18_1Great(t *testing.T) {
	for _, op := range []uint8{text, data} {
		isText := op == text
		for _, n := range []int{4095, 4096} {
			s := strings.Repeat("m", n)
			checkSteps(t, "not too great", step{last(op, s), isMessage(isText, s)}, step{last(op, s), isMessage(isText, s)})
			checkSteps(t, "not too great, in two", step{part(op, s[:n-1]), holds(n - 1)}, step{last(more, "m"), isMessage(isText, s)})
			checkSteps(t, "not too great, in three",
				step{part(op, ""), holds(0)}, step{part(more, s), holds(n)},
				step{last(ping, s), isControl(api.GotPing, s, n)}, step{last(more, ""), isMessage(isText, s)})
		}
		for _, n := range []int{4097, 5000, 1 << 20} {
			s := strings.Repeat("m", n)
			for _, fin := range answers {
				p := api.Piece{Fin: fin, Op: op, Data: []byte(s)}
				checkSteps(t, "too great", step{p, isBad(1009)}, step{last(op, "x"), silent})
				p = api.Piece{Fin: fin, Op: more, Data: []byte(s)}
				checkSteps(t, "too great by the second", step{part(op, ""), holds(0)}, step{p, isBad(1009)}, step{p, silent})
				for _, first := range []int{1, 2000, 4095, 4096} {
					p.Data = []byte(s[first:])
					checkSteps(t, "too great in all", step{part(op, s[:first]), holds(first)}, step{p, isBad(1009)}, step{p, silent})
				}
			}
		}
	}
}

// A message that is great is nothing to the one behind it.
func TestP18_1GreatBehindGreat(t *testing.T) {
	x := newTwin(t)
	for range 4 {
		for range 4 {
			x.take(last(data, strings.Repeat("\xff", 4096)))
			x.take(part(text, strings.Repeat("a", 4000)))
			x.take(last(more, strings.Repeat("b", 96)))
		}
		x.take(last(shut, "")) // the others aren't told, and not held
	}
}

func TestP18_1GreatAndNoText(t *testing.T) {
	s := strings.Repeat("m", 4096)
	for _, fin := range answers {
		for _, tail := range []string{"\xff", "\xe2", "\xe2\x82", "m\xff", "\xff" + s} {
			p := api.Piece{Fin: fin, Op: more, Data: []byte(tail)}
			checkSteps(t, "both in the second", step{part(text, s), holds(4096)}, step{p, isBad(1009)}, step{p, silent})
			p = api.Piece{Fin: fin, Op: text, Data: []byte(s + tail)}
			checkSteps(t, "both in the first", step{p, isBad(1009)})
			p.Data = []byte(tail + s)
			checkSteps(t, "no text first, in one frame", step{p, isBad(1009)})
		}
		p := api.Piece{Fin: fin, Op: text, Data: []byte(s[1:] + "\xff")}
		checkSteps(t, "just not too great, and no text", step{p, isBad(1007)})
		p = api.Piece{Fin: fin, Op: more, Data: []byte("\xff")}
		checkSteps(t, "not too great, and no text", step{part(text, s[1:]), holds(4095)}, step{p, isBad(1007)})
		checkSteps(t, "no text, then too great", step{part(text, "\xff"), isBad(1007)}, step{last(more, s), silent})
	}
	checkSteps(t, "begun, then too great", step{part(text, "\xe2"), holds(1)}, step{part(more, s), isBad(1009)})
	checkSteps(t, "begun at the edge", step{part(text, s[1:]+"\xe2"), holds(4096)}, step{part(more, "\x82"), isBad(1009)})
	checkSteps(t, "begun at the edge, and whole", step{part(text, s[1:]+"\xe2"), holds(4096)}, step{last(more, ""), isBad(1007)})
}

// noTexts are bytes that are no text, and how many stand ahead of the one by which they can't be the beginning of one.
var noTexts = []struct {
	s string
	n int
}{
	{"\xff", 0},
	{"\x80", 0},
	{"\xc0\x80", 0},
	{"\xc1", 0},
	{"\xf5", 0},
	{"a\xc2a", 2},
	{"\xe0\x9f\x80", 1},
	{"\xed\xa0\x80", 1},
	{"\xf0\x8f\xbf\xbf", 1},
	{"\xf4\x90\x80\x80", 1},
	{"\u20ac\xe2\x82\x20", 5},
	{"\U00010348\xf0\x90\x8d\xff", 7},
	{"\xe2", 1},
	{"\xe2\x82", 2},
	{"ab\xf0\x90\x8d", 5},
	{"\xc3", 1},
}

// A text is wrong as soon as it can't be the beginning of one any more, or ends too soon.
func TestP18_1NoText(t *testing.T) {
	for i, x := range noTexts {
		g := message.New()
		checkSteps(t, "in one frame", step{last(text, x.s), isBad(1007)}, step{last(text, "a"), silent})
		checkSteps(t, "as bytes", step{last(data, x.s), isMessage(false, x.s)})
		checkSteps(t, "behind a text", step{last(text, "a"), isMessage(true, "a")}, step{last(text, x.s), isBad(1007)})
		checkSteps(t, "behind bytes", step{part(data, x.s), holds(len(x.s))}, step{last(more, ""), isMessage(false, x.s)}, step{last(text, x.s), isBad(1007)})
		g.Take(part(text, ""))
		for j := range len(x.s) {
			want := holds(j + 1)
			switch {
			case j == x.n:
				want = isBad(1007)
			case j > x.n:
				want = silent
			}
			if got := ask(g, part(more, x.s[j:j+1])); got != want {
				t.Error(i, j, got, want)
			}
		}
		if x.n == len(x.s) {
			if got := ask(g, last(more, "")); got != isBad(1007) {
				t.Error(i, got)
			}
		}
		if got := ask(g, last(text, "")); got != silent {
			t.Error(i, got)
		}
	}
}

// A text may be cut anywhere, in its letters, too.
func TestP18_1CutText(t *testing.T) {
	s := "a\u00e9\u20ac\U00010348z\ud7ff\ue000\U0010ffff"
	for i := range len(s) + 1 {
		for j := i; j <= len(s); j++ {
			checkSteps(t, "a text",
				step{part(text, s[:i]), holds(i)}, step{part(more, s[i:j]), holds(j)},
				step{last(more, s[j:]), isMessage(true, s)}, step{last(text, "b"), isMessage(true, "b")})
		}
		x := newTwin(t)
		x.take(last(text, s[:i]))
		x.take(last(text, s[i:]))
	}
}

// Pings and pongs tell their bytes as they are.
func TestP18_1Controls(t *testing.T) {
	for op, kind := range map[uint8]uint8{ping: api.GotPing, pong: api.GotPong} {
		for _, s := range []string{"", "a", "\xff\xfe", "\x03\xe8", strings.Repeat("c", 125), strings.Repeat("c", 126), strings.Repeat("c", 5000)} {
			for _, p := range []api.Piece{part(op, s), last(op, s)} {
				checkSteps(t, "idle", step{p, isControl(kind, s, 0)}, step{p, isControl(kind, s, 0)}, step{last(text, "x"), isMessage(true, "x")})
				checkSteps(t, "begun", step{part(text, "\xe2\x82"), holds(2)}, step{p, isControl(kind, s, 2)}, step{last(more, "\xac"), isMessage(true, "\u20ac")})
				checkSteps(t, "begun without bytes", step{part(data, ""), holds(0)}, step{p, isControl(kind, s, 0)}, step{last(more, ""), isMessage(false, "")})
			}
		}
	}
}

func codeBytes(code int) string { return string([]byte{byte(code >> 8), byte(code)}) }

// Each code that two bytes can be, without a reason, with one, and with one that is no text.
func TestP18_1CloseCodes(t *testing.T) {
	for code := range 1 << 16 {
		b := codeBytes(code)
		bare, why, noText := isClose(uint32(code), ""), isClose(uint32(code), "why"), isBad(1007)
		if !mayTell(uint32(code)) {
			bare, why, noText = isBad(1002), isBad(1002), isBad(1002)
		}
		checkSteps(t, "a code", step{last(shut, b), bare})
		checkSteps(t, "a code and a reason", step{part(shut, b+"why"), why})
		checkSteps(t, "a code and no text", step{last(shut, b+"\xff"), noText})
	}
}

func TestP18_1CloseCodesByHand(t *testing.T) {
	for code, may := range map[int]bool{
		0: false, 1: false, 232: false, 999: false, 1000: true, 1001: true, 1002: true, 1003: true, 1004: false, 1005: false, 1006: false,
		1007: true, 1008: true, 1009: true, 1010: true, 1011: true, 1012: true, 1013: true, 1014: true, 1015: false, 1016: false, 1100: false,
		2000: false, 2999: false, 3000: true, 3999: true, 4000: true, 4999: true, 5000: false, 32768: false, 65535: false,
	} {
		want := isBad(1002)
		if may {
			want = isClose(uint32(code), "")
		}
		checkSteps(t, "a code", step{last(shut, codeBytes(code)), want}, step{last(shut, ""), silent})
		if message.Told(uint32(code)) != may {
			t.Error(code)
		}
	}
}

func TestP18_1CloseReasons(t *testing.T) {
	checkSteps(t, "none", step{last(shut, ""), isClose(1005, "")}, step{last(shut, ""), silent})
	checkSteps(t, "none, of nil", step{api.Piece{Fin: true, Op: shut}, isClose(1005, "")})
	for b := range 256 {
		checkSteps(t, "one byte", step{last(shut, string([]byte{byte(b)})), isBad(1002)}, step{last(shut, ""), silent})
	}
	for _, s := range []string{"a", "\x00", "\u20ac", "\U0010ffff", strings.Repeat("a", 123), strings.Repeat("a", 200), strings.Repeat("a", 5000)} {
		checkSteps(t, "a text", step{last(shut, "\x03\xf5"+s), isClose(1013, s)}, step{last(shut, "\x03\xf5"+s), silent})
	}
	for _, x := range noTexts {
		checkSteps(t, "no text", step{last(shut, "\x03\xe8"+x.s), isBad(1007)}, step{last(shut, ""), silent})
		checkSteps(t, "no text behind one", step{last(shut, "\x0f\xa0abc"+x.s), isBad(1007)})
		checkSteps(t, "no text, and a code that may not be told", step{last(shut, "\x03\xed"+x.s), isBad(1002)})
	}
}

// Behind a close and behind what is wrong nothing is told and nothing held, whatever comes.
func TestP18_1Over(t *testing.T) {
	ends := map[string]told{
		"\x08":                             isClose(1005, ""),
		"\x08\x03\xe9":                     isClose(1001, ""),
		"\x08\x03\xed":                     isBad(1002),
		"\x08x":                            isBad(1002),
		"\x08\x03\xe8\xff":                 isBad(1007),
		"\x03":                             isBad(1002),
		"\x0b":                             isBad(1002),
		"\x01":                             isBad(1002),
		"\x02":                             isBad(1002),
		"\x00\xff":                         isBad(1007),
		"\x00" + strings.Repeat("a", 4096): isBad(1009),
	}
	for end, want := range ends {
		for _, fin := range answers {
			g := message.New()
			if x := ask(g, part(text, "ab\xe2")); x != holds(3) {
				t.Fatal(x)
			}
			if x := ask(g, api.Piece{Fin: fin, Op: end[0], Data: []byte(end[1:])}); x != want {
				t.Errorf("%.20q: %v", end, x)
			}
			for op := range 256 {
				n, ok := g.Take(api.Piece{Fin: op%3 == 0, Op: uint8(op), Data: []byte("\x03\xe8")})
				if n.Kind != 0 || n.Text || n.Data != nil || n.Code != 0 || ok || g.Held() != 0 || !g.Over() {
					t.Fatalf("%.20q, %d: %v", end, op, n)
				}
			}
		}
	}
}

// What is handed in isn't changed and isn't kept; what is answered is nobody else's.
func TestP18_1Memory(t *testing.T) {
	for _, p := range []api.Piece{last(text, "abcd"), last(data, "abcd"), last(ping, "abcd"), last(pong, "abcd"), last(shut, "\x0c\x0cabcd")} {
		g := message.New()
		before := string(p.Data)
		n, _ := g.Take(p)
		if string(p.Data) != before {
			t.Error(p.Op, "what is handed in is changed")
		}
		clear(p.Data)
		if string(n.Data) != "abcd" {
			t.Error(p.Op, "what is answered is what was handed in")
		}
		p.Data = []byte(before)
		clear(n.Data)
		if string(p.Data) != before {
			t.Error(p.Op, "what is handed in is what was answered")
		}
	}
	g := message.New()
	for range 3 {
		first, second := part(text, "abc"), part(more, "\xe2\x82")
		g.Take(first)
		clear(first.Data)
		g.Take(second)
		clear(second.Data)
		n, ok := g.Take(last(more, "\xacd"))
		if !ok || string(n.Data) != "abc\u20acd" {
			t.Fatal(n)
		}
		g.Take(part(data, "xyz"))
		clear(n.Data)
		_ = append(n.Data, bytes.Repeat([]byte{0xff}, 100)...)
		m, ok := g.Take(last(more, "w"))
		if !ok || string(m.Data) != "xyzw" || string(n.Data) != string(make([]byte, 7)) {
			t.Fatal(m, n)
		}
	}
}

// The room behind a list that is handed in isn't written into.
func TestP18_1RoomBehind(t *testing.T) {
	b := []byte("abcdefgh")
	g := message.New()
	g.Take(api.Piece{Op: data, Data: b[:2]})
	g.Take(api.Piece{Op: more, Data: []byte("XY")})
	n, _ := g.Take(api.Piece{Fin: true, Op: more, Data: b[4:5]})
	if string(n.Data) != "abXYe" || string(b) != "abcdefgh" {
		t.Errorf("%q %q", n.Data, b)
	}
}

// checkRows goes through all rows of so many frames.
func checkRows(t *testing.T, frames []api.Piece, count int) {
	t.Helper()
	rows := 1
	for range count {
		rows *= len(frames)
	}
	for i := range rows {
		x := newTwin(t)
		for range count {
			x.take(frames[i%len(frames)])
			i /= len(frames)
		}
	}
}

func TestP18_1Rows(t *testing.T) {
	checkRows(t, []api.Piece{
		part(text, ""), part(text, "a\xe2"), last(text, "b"), part(data, "\xff"), last(data, ""), part(more, "\x82"), last(more, "\xac"), last(more, ""),
		last(ping, "p"), last(pong, "q"), last(shut, ""), last(shut, "\x03\xe8r"), last(11, ""),
	}, 5)
}

func TestP18_1GreatRows(t *testing.T) {
	great := strings.Repeat("a", 4095)
	checkRows(t, []api.Piece{
		part(text, great), part(data, great), last(text, great+"b"), part(text, great+"\xc3"), part(more, "\xc3"), part(more, "c"), last(more, "\xa9"), last(more, ""), last(ping, great),
	}, 4)
}

// anyText is a text of so many letters, of all sizes.
func anyText(r *rand.Rand, count int) string {
	var b strings.Builder
	for range count {
		b.WriteRune([]rune{'a', 0, 0x7f, 0x80, 0xe9, 0x7ff, 0x800, 0x20ac, 0xd7ff, 0xe000, 0xfffd, 0xffff, 0x10000, 0x10348, 0x10ffff}[r.Intn(15)])
	}
	return b.String()
}

// anyData are bytes that mostly are a text.
func anyData(r *rand.Rand) string {
	s := anyText(r, r.Intn(6))
	switch r.Intn(12) {
	case 0:
		return s + "\xff"
	case 1:
		return s[:r.Intn(len(s)+1)]
	case 2:
		return strings.Repeat("g", 4080+r.Intn(20)) + s
	case 3:
		return codeBytes(995+r.Intn(25)) + s
	}
	return s
}

// anyPiece is a frame that mostly may come where a message is begun, or none.
func anyPiece(r *rand.Rand, begun bool) api.Piece {
	p := api.Piece{Fin: r.Intn(2) == 0, Op: uint8(1 + r.Intn(2)), Data: []byte(anyData(r))}
	if begun {
		p.Op = more
	}
	switch r.Intn(20) {
	case 0:
		p.Op = uint8(r.Intn(256))
	case 1:
		p.Op = uint8(r.Intn(11))
	case 2, 3, 4:
		p.Op = uint8(9 + r.Intn(2))
	case 5:
		p.Op = shut
	}
	return p
}

func TestP18_1Any(t *testing.T) {
	r := rand.New(rand.NewSource(181))
	kinds := map[told]int{}
	for range 40000 {
		x := newTwin(t)
		for range 12 {
			got := x.take(anyPiece(r, x.m.begun))
			kinds[told{kind: got.kind, text: got.text, code: got.code}]++
		}
	}
	for _, want := range []told{{}, {kind: 1}, {kind: 1, text: true}, {kind: 2}, {kind: 3}, {kind: 4, code: 1005}, {kind: 4, code: 1013}, {kind: 5, code: 1002}, {kind: 5, code: 1007}, {kind: 5, code: 1009}} {
		if kinds[want] == 0 {
			t.Error("never came", want)
		}
	}
}

// A text in frames that are cut anywhere, so that letters are, too.
func TestP18_1AnyText(t *testing.T) {
	r := rand.New(rand.NewSource(182))
	for range 3000 {
		s := anyText(r, r.Intn(30))
		if r.Intn(3) == 0 && s != "" {
			b := []byte(s)
			b[r.Intn(len(b))] ^= byte(1 << r.Intn(8))
			s = string(b)
		}
		x := newTwin(t)
		for rest, op := s, uint8(text); !x.m.over; op = more {
			n := r.Intn(min(len(rest), 5) + 1)
			p := api.Piece{Fin: n == len(rest), Op: op, Data: []byte(rest[:n])}
			rest = rest[n:]
			if got := x.take(p); p.Fin {
				if !got.over && got != isMessage(true, s) {
					t.Fatal(got)
				}
				break
			}
		}
	}
}

func TestP18_1Told(t *testing.T) {
	for code := range uint32(1 << 17) {
		if message.Told(code) != mayTell(code) {
			t.Fatal(code)
		}
	}
	for _, code := range []uint32{1 << 17, 65536 + 1000, 65536 + 3000, 1 << 24, 1<<24 + 1000, 1<<31 - 1, 1 << 31, 1<<31 + 1000, math.MaxUint32 - 1, math.MaxUint32} {
		if message.Told(code) {
			t.Error(code)
		}
	}
}

// frames are those of a message, as the chapter says.
func frames(isText bool, s string, most int) []api.Piece {
	most = min(max(most, 1), maxPiece)
	count := max((len(s)+most-1)/most, 1)
	l := make([]api.Piece, count)
	for i := range l {
		l[i].Data = []byte(s[i*most : min((i+1)*most, len(s))])
	}
	l[0].Op = data
	if isText {
		l[0].Op = text
	}
	l[count-1].Fin = true
	return l
}

func samePiece(a, b api.Piece) bool {
	return a.Fin == b.Fin && a.Op == b.Op && a.Mask == b.Mask && a.Key == b.Key && bytes.Equal(a.Data, b.Data)
}

// signs are so many letters, none of which is the one ahead of it.
func signs(n int) string {
	b := make([]byte, n)
	for i := range b {
		b[i] = byte(i % 127)
	}
	return string(b)
}

func checkCut(t *testing.T, isText bool, s string, most int) {
	t.Helper()
	got, want := message.Cut(isText, []byte(s), most), frames(isText, s, most)
	if !slices.EqualFunc(got, want, samePiece) {
		t.Errorf("%d bytes by %d: %.200v, wanted %.200v", len(s), most, got, want)
	}
	for _, p := range got {
		if !wsframe.May(p) {
			t.Errorf("%d bytes by %d: a frame that may not be", len(s), most)
		}
	}
}

func TestP18_1Cut(t *testing.T) {
	for _, isText := range answers {
		for n := range 40 {
			for most := -2; most < 45; most++ {
				checkCut(t, isText, signs(n), most)
			}
		}
		for _, n := range []int{0, 1, 2, 125, 126, 4095, 4096, 4097, 8191, 8192, 8193, 20000} {
			for _, most := range []int{math.MinInt, math.MinInt32, -4096, -1, 0, 1, 2, 3, 1000, 2048, 4095, 4096, 4097, 5000, 8192, math.MaxInt32, math.MaxInt} {
				checkCut(t, isText, signs(n), most)
			}
		}
	}
}

func TestP18_1CutByHand(t *testing.T) {
	for i, x := range []struct {
		isText bool
		b      []byte
		most   int
		want   []api.Piece
	}{
		{true, []byte("abcde"), 2, []api.Piece{part(text, "ab"), part(more, "cd"), last(more, "e")}},
		{false, []byte("abcd"), 2, []api.Piece{part(data, "ab"), last(more, "cd")}},
		{true, []byte("abcd"), 4, []api.Piece{last(text, "abcd")}},
		{false, []byte("abcd"), 3, []api.Piece{part(data, "abc"), last(more, "d")}},
		{true, []byte("ab"), 0, []api.Piece{part(text, "a"), last(more, "b")}},
		{true, nil, 5, []api.Piece{last(text, "")}},
		{false, []byte{}, -5, []api.Piece{last(data, "")}},
		{true, []byte("\xffa"), 1, []api.Piece{part(text, "\xff"), last(more, "a")}}, // whether it is a text, is for others to ask
	} {
		if got := message.Cut(x.isText, x.b, x.most); !slices.EqualFunc(got, x.want, samePiece) {
			t.Error(i, got, x.want)
		}
	}
}

func TestP18_1CutMemory(t *testing.T) {
	for _, most := range []int{1, 2, 3, 6, 7, 4096} {
		b := []byte("abcdefgh")[:6]
		l := message.Cut(true, b, most)
		if string(b[:8]) != "abcdefgh" {
			t.Errorf("%q", b[:8])
		}
		clear(b)
		want := frames(true, "abcdef", most)
		if !slices.EqualFunc(l, want, samePiece) {
			t.Error(most, l)
		}
		for i, p := range l {
			clear(p.Data)
			_ = append(p.Data, 0xff, 0xff, 0xff)
			clear(want[i].Data)
			if !slices.EqualFunc(l, want, samePiece) {
				t.Error(most, i, l)
			}
		}
		if string(b) != string(make([]byte, 6)) || string(b[6:8]) != "gh" {
			t.Errorf("%q", b[:8])
		}
	}
}

// reasonFits is what of a reason a close has room for.
func reasonFits(s string) string {
	if !utf8.ValidString(s) {
		return ""
	}
	end := 0
	for i, r := range s {
		if i+utf8.RuneLen(r) <= reasonRoom {
			end = i + utf8.RuneLen(r)
		}
	}
	return s[:end]
}

func checkClose(t *testing.T, code uint32, reason, want string) {
	t.Helper()
	p := message.Close(code, reason)
	if !samePiece(p, last(shut, want)) || !wsframe.May(p) {
		t.Errorf("%d, %.150q: %v, wanted %.150q", code, reason, p, want)
	}
}

func TestP18_1Close(t *testing.T) {
	for code := range 1 << 16 {
		bare, why := "", ""
		if mayTell(uint32(code)) {
			bare, why = codeBytes(code), codeBytes(code)+"why"
		}
		checkClose(t, uint32(code), "", bare)
		checkClose(t, uint32(code), "why", why)
		checkClose(t, uint32(code), "why\xff", bare)
		checkClose(t, uint32(code)+1<<16, "why", "")
	}
	for _, code := range []uint32{1<<24 + 1000, 1<<31 + 1000, math.MaxUint32 - 65535 + 1000, math.MaxUint32} {
		checkClose(t, code, "why", "")
	}
}

func TestP18_1CloseRoom(t *testing.T) {
	for n := range 300 {
		s := strings.Repeat("a", n)
		checkClose(t, 1000, s, "\x03\xe8"+s[:min(n, reasonRoom)])
		for _, letter := range []string{"\u00e9", "\u20ac", "\U00010348"} {
			for _, tail := range []string{"", "a", "\u00e9", s} {
				reason := s + letter + tail
				checkClose(t, 1013, reason, "\x03\xf5"+reasonFits(reason))
			}
		}
	}
	for _, letter := range []string{"\u00e9", "\u20ac", "\U00010348"} {
		whole := reasonRoom / len(letter)
		for n := range 100 {
			checkClose(t, 4999, strings.Repeat(letter, n), "\x13\x87"+strings.Repeat(letter, min(n, whole)))
		}
	}
	checkClose(t, 1000, strings.Repeat("a", 1<<20), "\x03\xe8"+strings.Repeat("a", reasonRoom))
}

// A reason that isn't a text is none, wherever it is wrong, behind the room, too.
func TestP18_1CloseNoText(t *testing.T) {
	for _, x := range noTexts {
		for _, n := range []int{0, 1, 100, 119, 120, 121, 122, 123, 124, 125, 126, 500} {
			s := strings.Repeat("a", n)
			checkClose(t, 1001, s+x.s, "\x03\xe9")
			checkClose(t, 1001, x.s+"\xff"+s, "\x03\xe9")
			checkClose(t, 1005, s+x.s, "")
		}
	}
}

// Whoever writes into a close changes no other one.
func TestP18_1CloseMemory(t *testing.T) {
	p := message.Close(1000, "why")
	clear(p.Data)
	_ = append(p.Data, 0xff)
	checkClose(t, 1000, "why", "\x03\xe8why")
}

func TestP18_1CloseThereAndBack(t *testing.T) {
	r := rand.New(rand.NewSource(183))
	for range 20000 {
		code, reason := uint32(900+r.Intn(4200)), anyText(r, r.Intn(60))
		want := isClose(1005, "")
		if mayTell(code) {
			want = isClose(code, reasonFits(reason))
		}
		if got := ask(message.New(), message.Close(code, reason)); got != want {
			t.Fatal(code, reason, got, want)
		}
	}
}

// between is what stands between the frames of a message: none, or some pings and pongs.
func between(r *rand.Rand) []api.Piece {
	var l []api.Piece
	for r.Intn(3) == 0 {
		l = append(l, last(uint8(9+r.Intn(2)), signs(r.Intn(126))))
	}
	return l
}

// gather hands a gatherer a message's frames, with others between, and looks that just it is told, by its last frame.
func gather(t *testing.T, r *rand.Rand, g *message.Gatherer, isText bool, s string, most int) {
	t.Helper()
	held := 0
	for _, p := range message.Cut(isText, []byte(s), most) {
		for _, q := range between(r) {
			kind := uint8(api.GotPing)
			if q.Op == pong {
				kind = api.GotPong
			}
			if x := ask(g, q); x != isControl(kind, string(q.Data), held) {
				t.Fatal(x)
			}
		}
		held += len(p.Data)
		want := holds(held)
		if p.Fin {
			want = isMessage(isText, s)
		}
		if x := ask(g, p); x != want {
			t.Fatalf("%d bytes by %d: %.200v, wanted %.200v", len(s), most, x, want)
		}
	}
	if g.Held() != 0 || g.Over() {
		t.Fatal(g.Held())
	}
}

func TestP18_2EachSize(t *testing.T) {
	r := rand.New(rand.NewSource(184))
	g := message.New()
	letters := "a\u00e9\u20ac\U00010348"
	for i := range 40 {
		for _, s := range []string{signs(i), strings.Repeat(letters, i)} {
			for most := -1; most < 45; most++ {
				gather(t, r, g, true, s, most)
				gather(t, r, g, false, s, most)
			}
		}
	}
	for _, n := range []int{125, 126, 2048, 4095, maxMessage} {
		for _, most := range []int{0, 1, 2, 3, 7, 100, 2048, 4095, maxPiece, 4097, math.MaxInt} {
			gather(t, r, g, true, signs(n), most)
			gather(t, r, g, false, strings.Repeat("\xff", n), most)
		}
	}
	gather(t, r, g, true, strings.Repeat("\U00010348", maxMessage/4), 3)
}

func TestP18_2Any(t *testing.T) {
	r := rand.New(rand.NewSource(185))
	g := message.New()
	for range 4000 {
		s := anyText(r, r.Intn(1+1<<r.Intn(10)))
		gather(t, r, g, true, s, r.Intn(len(s)+2))
		b := make([]byte, r.Intn(1+1<<r.Intn(13)))
		r.Read(b)
		gather(t, r, g, false, string(b), r.Intn(len(b)+2))
	}
}

// A message's frames as bytes, masked and not, are gathered as it was; a close behind them, too.
func TestP18_2AsBytes(t *testing.T) {
	r := rand.New(rand.NewSource(186))
	for range 500 {
		g := message.New()
		masked := r.Intn(2) == 0
		s := anyText(r, r.Intn(200))
		var l []api.Piece
		for _, p := range message.Cut(true, []byte(s), 1+r.Intn(50)) {
			l = append(append(l, between(r)...), p)
		}
		l = append(l, message.Close(1000, "bye"))
		var heard []told
		for _, p := range l {
			if masked {
				p.Mask, p.Key = true, r.Uint32()
			}
			q, wrong := wsframe.Get(wsframe.Put(p), masked)
			if wrong != (api.Fault{}) {
				t.Fatal(wrong)
			}
			if x := ask(g, q); x.ok && x.kind != api.GotPing && x.kind != api.GotPong {
				heard = append(heard, x)
			}
		}
		if len(heard) != 2 || heard[0] != isMessage(true, s) || heard[1] != isClose(1000, "bye") {
			t.Fatal(heard)
		}
	}
}

// A message that is cut, but is too great, isn't gathered.
func TestP18_2TooGreat(t *testing.T) {
	for _, isText := range answers {
		for _, most := range []int{1, 100, 2048, 4096} {
			g := message.New()
			var x told
			for _, p := range message.Cut(isText, []byte(signs(maxMessage+1)), most) {
				if x.over {
					t.Fatal(most, "is over too soon")
				}
				x = ask(g, p)
			}
			if x != isBad(1009) {
				t.Error(most, x)
			}
		}
	}
}
