package closing_test

import (
	"math"
	"math/rand"
	"strings"
	"testing"
	"unicode/utf8"

	"louver/api"
	"louver/closing"
	"louver/message"
	"louver/wsframe"
)

const reasonRoom = 123

// call is a call that may change a door; Got, Bad and Cut take no reason, Cut takes no code.
type call struct {
	kind   byte
	code   uint32
	reason string
}

const (
	closes = 'c'
	gets   = 'g'
	wrongs = 'w'
	cuts   = 'x'
)

// told is what a call answers, and what End, Sent and Through answer behind it.
type told struct {
	fin     bool
	op      uint8
	mask    bool
	key     uint32
	data    string
	ok      bool
	end     api.End
	sent    bool
	through bool
}

func answer(d *closing.Door, p api.Piece, ok bool) told {
	return told{p.Fin, p.Op, p.Mask, p.Key, string(p.Data), ok, d.End(), d.Sent(), d.Through()}
}

// ask does a call of a door, and is what that answers.
func ask(d *closing.Door, c call) told {
	var p api.Piece
	var ok bool
	switch c.kind {
	case closes:
		p, ok = d.Close(c.code, c.reason)
	case gets:
		p, ok = d.Got(c.code)
	case wrongs:
		p, ok = d.Bad(c.code)
	case cuts:
		d.Cut()
	}
	return answer(d, p, ok)
}

// sends is what a call answers by which a close with these bytes is to be sent.
func sends(data string, cause uint8, code uint32) told {
	return told{fin: true, op: 8, data: data, ok: true, end: api.End{Cause: cause, Code: code}, sent: true, through: cause != 0}
}

// silent is what one answers by which nothing is to be sent.
func silent(sent bool, cause uint8, code uint32) told {
	return told{end: api.End{Cause: cause, Code: code}, sent: sent, through: cause != 0}
}

// model does what the chapter says, word by word.
type model struct {
	sent, got bool
	gotCode   uint32
	end       api.End
}

func (m *model) ask(c call) told {
	ended := m.end.Cause != 0
	var send, why bool
	switch c.kind {
	case closes:
		send, why = !m.sent && !ended, true
	case gets:
		if !ended {
			m.got, m.gotCode = true, c.code
			send = !m.sent
		}
	case wrongs:
		if !ended {
			m.end = api.End{Cause: 2, Code: c.code}
			send = !m.sent
		}
	case cuts:
		if !ended {
			m.end = api.End{Cause: 3, Code: 1006}
		}
	}
	m.sent = m.sent || send
	if m.sent && m.got && m.end.Cause == 0 {
		m.end = api.End{Cause: 1, Code: m.gotCode}
	}
	x := silent(m.sent, m.end.Cause, m.end.Code)
	if send {
		x = sends(bytesOf(c, why), m.end.Cause, m.end.Code)
	}
	return x
}

// bytesOf are those of the close that is sent by a call, with its reason or without one.
func bytesOf(c call, why bool) string {
	if !mayTell(c.code) {
		return ""
	}
	b := string([]byte{byte(c.code >> 8), byte(c.code)})
	if why {
		b += reasonFits(c.reason)
	}
	return b
}

// mayTell is chapter 18's row of codes that may not be told, the other way.
func mayTell(code uint32) bool {
	switch {
	case code < 1000, 1004 <= code && code <= 1006, 1015 <= code && code <= 2999, code > 4999:
		return false
	}
	return true
}

// reasonFits is what of a reason a close has room for.
func reasonFits(s string) string {
	if !utf8.ValidString(s) {
		return ""
	}
	end := 0
	for i, r := range s {
		if i+utf8.RuneLen(r) <= reasonRoom {
			end = i + utf8.RuneLen(r)
		}
	}
	return s[:end]
}

// twin is a door and its model, held against each other in every call.
type twin struct {
	t   *testing.T
	d   *closing.Door
	m   model
	row []call
}

func newTwin(t *testing.T) *twin { return &twin{t: t, d: closing.New()} }

func (x *twin) ask(c call) told {
	want := x.m.ask(c)
	got := ask(x.d, c)
	if got != want {
		x.t.Helper()
		x.t.Fatalf("%.300v behind %.300v: %.300v, wanted %.300v", c, x.row, got, want)
	}
	x.row = append(x.row, c)
	return got
}

// step is a call, and what it answers.
type step struct {
	c    call
	want told
}

func checkSteps(t *testing.T, name string, steps ...step) {
	t.Helper()
	d := closing.New()
	for i, s := range steps {
		if got := ask(d, s.c); got != s.want {
			t.Errorf("%s, step %d: %.200v, wanted %.200v", name, i, got, s.want)
		}
	}
}

func TestP19_1Example(t *testing.T) {
	checkSteps(t, "got", step{call{gets, 1000, ""}, sends("\x03\xe8", api.EndedClosed, 1000)})
}

func TestP19_1New(t *testing.T) {
	d := closing.New()
	if d == nil || answer(d, api.Piece{}, false) != (told{}) {
		t.Fatal(d)
	}
}

func TestP19_1Nil(t *testing.T) {
	var d *closing.Door
	want := silent(false, api.EndedCut, 1006)
	if x := answer(d, api.Piece{}, false); x != want {
		t.Error(x)
	}
	for _, kind := range []byte{closes, gets, wrongs, cuts, closes} {
		for _, code := range []uint32{0, 999, 1000, 1005, 1006, 4999, 5000, math.MaxUint32} {
			for _, reason := range []string{"", "why", "\xff", strings.Repeat("a", 200)} {
				if x := ask(d, call{kind, code, reason}); x != want {
					t.Error(string(kind), code, x)
				}
			}
		}
	}
	if p, ok := d.Close(1000, ""); p.Data != nil || ok {
		t.Error(p)
	}
}

// One is told nothing of what another one is.
func TestP19_1Others(t *testing.T) {
	a, b, c, d := closing.New(), closing.New(), closing.New(), closing.New()
	ask(a, call{closes, 1000, ""})
	ask(b, call{gets, 1001, ""})
	ask(c, call{cuts, 0, ""})
	if x := answer(d, api.Piece{}, false); x != (told{}) {
		t.Error(x)
	}
	if x := answer(a, api.Piece{}, false); x != silent(true, 0, 0) {
		t.Error(x)
	}
	if x := ask(d, call{wrongs, 1007, ""}); x != sends("\x03\xef", api.EndedBad, 1007) {
		t.Error(x)
	}
	if x := ask(a, call{gets, 1008, ""}); x != silent(true, api.EndedClosed, 1008) {
		t.Error(x)
	}
	if b.End() != (api.End{Cause: api.EndedClosed, Code: 1001}) || c.End() != (api.End{Cause: api.EndedCut, Code: 1006}) || c.Sent() {
		t.Error(b.End(), c.End(), c.Sent())
	}
}

func TestP19_1Close(t *testing.T) {
	checkSteps(t, "and got",
		step{call{closes, 1001, "away"}, sends("\x03\xe9away", 0, 0)},
		step{call{closes, 1000, ""}, silent(true, 0, 0)},
		step{call{gets, 1013, ""}, silent(true, api.EndedClosed, 1013)},
		step{call{closes, 1000, ""}, silent(true, api.EndedClosed, 1013)})
	checkSteps(t, "and got none",
		step{call{closes, 1000, ""}, sends("\x03\xe8", 0, 0)},
		step{call{gets, 1005, ""}, silent(true, api.EndedClosed, 1005)})
	checkSteps(t, "and wrong",
		step{call{closes, 1000, "x"}, sends("\x03\xe8x", 0, 0)},
		step{call{wrongs, 1002, ""}, silent(true, api.EndedBad, 1002)},
		step{call{gets, 1000, ""}, silent(true, api.EndedBad, 1002)})
	checkSteps(t, "and cut",
		step{call{closes, 1000, "x"}, sends("\x03\xe8x", 0, 0)},
		step{call{cuts, 0, ""}, silent(true, api.EndedCut, 1006)},
		step{call{gets, 1000, ""}, silent(true, api.EndedCut, 1006)})
	checkSteps(t, "a code that may not be told, once, too",
		step{call{closes, 1005, "x"}, sends("", 0, 0)},
		step{call{closes, 1000, "x"}, silent(true, 0, 0)},
		step{call{gets, 1000, ""}, silent(true, api.EndedClosed, 1000)})
}

// Behind an end nothing is to be sent and nothing changed, whether a close was sent or not.
func TestP19_1Through(t *testing.T) {
	ends := map[call]told{
		{gets, 1000, ""}:   sends("\x03\xe8", api.EndedClosed, 1000),
		{gets, 1005, ""}:   sends("", api.EndedClosed, 1005),
		{wrongs, 1007, ""}: sends("\x03\xef", api.EndedBad, 1007),
		{wrongs, 1006, ""}: sends("", api.EndedBad, 1006),
		{cuts, 0, ""}:      silent(false, api.EndedCut, 1006),
	}
	for end, first := range ends {
		behind := silent(first.sent, first.end.Cause, first.end.Code)
		for _, next := range []call{{closes, 1001, "why"}, {closes, 1005, ""}, {gets, 1008, ""}, {gets, 1005, ""}, {gets, 1006, ""}, {wrongs, 1002, ""}, {wrongs, 0, ""}, {cuts, 0, ""}} {
			checkSteps(t, "behind its end", step{end, first}, step{next, behind}, step{next, behind}, step{end, behind})
			first, sent := first, behind
			first.fin, first.op, first.data, first.ok = false, 0, "", false
			first.sent, sent.sent = true, true
			checkSteps(t, "behind its close and its end", step{call{closes, 4000, "z"}, sends("\x0f\xa0z", 0, 0)}, step{end, first}, step{next, sent}, step{end, sent})
		}
	}
}

// An end's code is the one that came, also 0, and not the one that was sent.
func TestP19_1Ends(t *testing.T) {
	if api.NotEnded != 0 || api.EndedClosed != 1 || api.EndedBad != 2 || api.EndedCut != 3 {
		t.Fatal("the model holds other causes")
	}
	checkSteps(t, "a code of 0 is an end, too",
		step{call{gets, 0, ""}, sends("", api.EndedClosed, 0)}, step{call{cuts, 0, ""}, silent(true, api.EndedClosed, 0)})
	checkSteps(t, "wrong with 0",
		step{call{wrongs, 0, ""}, sends("", api.EndedBad, 0)}, step{call{gets, 1000, ""}, silent(true, api.EndedBad, 0)})
	checkSteps(t, "closed with that which it got, not that which it sent",
		step{call{closes, 4999, ""}, sends("\x13\x87", 0, 0)}, step{call{gets, 3000, ""}, silent(true, api.EndedClosed, 3000)})
}

// Each code that two bytes can be, and ones above, in each call.
func TestP19_1Codes(t *testing.T) {
	codes := []uint32{1<<16 + 1000, 1<<24 + 1000, 1<<31 - 1, 1 << 31, 1<<31 + 1000, math.MaxUint32 - 65535 + 1000, math.MaxUint32}
	for code := range uint32(1<<16 + 6000) {
		codes = append(codes, code)
	}
	for _, code := range codes {
		bare := ""
		if mayTell(code) {
			bare = string([]byte{byte(code >> 8), byte(code)})
		}
		why := bare
		if why != "" {
			why += "why"
		}
		checkSteps(t, "close", step{call{closes, code, ""}, sends(bare, 0, 0)}, step{call{gets, 1000, ""}, silent(true, api.EndedClosed, 1000)})
		checkSteps(t, "close with a reason", step{call{closes, code, "why"}, sends(why, 0, 0)}, step{call{wrongs, code, ""}, silent(true, api.EndedBad, code)})
		checkSteps(t, "got", step{call{gets, code, ""}, sends(bare, api.EndedClosed, code)})
		checkSteps(t, "wrong", step{call{wrongs, code, ""}, sends(bare, api.EndedBad, code)})
		checkSteps(t, "close, and got", step{call{closes, 1000, ""}, sends("\x03\xe8", 0, 0)}, step{call{gets, code, ""}, silent(true, api.EndedClosed, code)})
	}
}

func TestP19_1CodesByHand(t *testing.T) {
	for code, want := range map[uint32]string{
		0: "", 1: "", 999: "", 1000: "\x03\xe8", 1001: "\x03\xe9", 1002: "\x03\xea", 1003: "\x03\xeb", 1004: "", 1005: "", 1006: "", 1007: "\x03\xef",
		1008: "\x03\xf0", 1009: "\x03\xf1", 1013: "\x03\xf5", 1014: "\x03\xf6", 1015: "", 2999: "", 3000: "\x0b\xb8", 4999: "\x13\x87", 5000: "", 66536: "",
	} {
		checkSteps(t, "got", step{call{gets, code, ""}, sends(want, api.EndedClosed, code)})
		checkSteps(t, "wrong", step{call{wrongs, code, ""}, sends(want, api.EndedBad, code)})
		checkSteps(t, "close", step{call{closes, code, ""}, sends(want, 0, 0)})
	}
}

// A reason goes as far as there is room for it, in whole letters; one that isn't a text not at all; the close goes all the same.
func TestP19_1Reasons(t *testing.T) {
	for _, letter := range []string{"a", "\u00e9", "\u20ac", "\U00010348"} {
		for n := range 140 {
			for _, ahead := range []string{"", "a", "ab", "abc"} {
				reason := ahead + strings.Repeat(letter, n)
				whole := min(n, (reasonRoom-len(ahead))/len(letter))
				checkSteps(t, "a text",
					step{call{closes, 1000, reason}, sends("\x03\xe8"+ahead+strings.Repeat(letter, whole), 0, 0)}, step{call{closes, 1000, ""}, silent(true, 0, 0)})
				checkSteps(t, "a text, and a code that may not be told",
					step{call{closes, 1006, reason}, sends("", 0, 0)}, step{call{closes, 1000, ""}, silent(true, 0, 0)})
			}
		}
	}
	for _, reason := range []string{"\xff", "\x80", "why\xe2\x82", "\xed\xa0\x80", "\xf4\x90\x80\x80", strings.Repeat("a", 200) + "\xff"} {
		checkSteps(t, "no text", step{call{closes, 1001, reason}, sends("\x03\xe9", 0, 0)}, step{call{closes, 1000, "why"}, silent(true, 0, 0)})
	}
	checkSteps(t, "a great text", step{call{closes, 1000, strings.Repeat("a", 1<<20)}, sends("\x03\xe8"+strings.Repeat("a", reasonRoom), 0, 0)})
}

// End, Sent and Through change nothing.
func TestP19_1Asking(t *testing.T) {
	for _, c := range []call{{}, {closes, 1000, ""}, {gets, 1000, ""}, {wrongs, 1002, ""}, {cuts, 0, ""}} {
		d := closing.New()
		ask(d, c)
		want := answer(d, api.Piece{}, false)
		for range 3 {
			if x := answer(d, api.Piece{}, false); x != want {
				t.Error(c, x, want)
			}
		}
	}
}

// Whoever writes into a close changes no other one, and no door.
func TestP19_1Memory(t *testing.T) {
	for _, c := range []call{{closes, 1000, "why"}, {gets, 1000, ""}, {wrongs, 1000, ""}} {
		d := closing.New()
		var p api.Piece
		switch c.kind {
		case closes:
			p, _ = d.Close(c.code, c.reason)
		case gets:
			p, _ = d.Got(c.code)
		case wrongs:
			p, _ = d.Bad(c.code)
		}
		before := answer(d, api.Piece{}, false)
		clear(p.Data)
		_ = append(p.Data, 0xff, 0xff)
		if x := answer(d, api.Piece{}, false); x != before {
			t.Error(x)
		}
		x := newTwin(t)
		x.ask(c)
	}
}

// rowCalls are calls of each kind, with codes that may be told, may not be told, and are none.
func rowCalls() []call {
	return []call{
		{closes, 1000, ""}, {closes, 1001, "why\xe2\x82\xac"}, {closes, 1006, "why"},
		{gets, 1000, ""}, {gets, 1005, ""}, {gets, 0, ""},
		{wrongs, 1007, ""}, {wrongs, 1005, ""},
		{cuts, 0, ""},
	}
}

// eachRow hands on all rows of so many calls.
func eachRow(count int, look func(row []call)) {
	calls := rowCalls()
	rows := 1
	for range count {
		rows *= len(calls)
	}
	row := make([]call, count)
	for i := range rows {
		for j := range row {
			row[j] = calls[i%len(calls)]
			i /= len(calls)
		}
		look(row)
	}
}

func TestP19_1Rows(t *testing.T) {
	eachRow(5, func(row []call) {
		x := newTwin(t)
		for _, c := range row {
			x.ask(c)
		}
	})
}

func anyCode(r *rand.Rand) uint32 {
	switch r.Intn(5) {
	case 0:
		return r.Uint32()
	case 1:
		return []uint32{0, 999, 1004, 1005, 1006, 1015, 2999, 3000, 4999, 5000, 65535, 65536, math.MaxUint32}[r.Intn(13)]
	}
	return uint32(990 + r.Intn(30))
}

func anyReason(r *rand.Rand) string {
	var b strings.Builder
	for range r.Intn(1 + 1<<r.Intn(8)) {
		b.WriteRune([]rune{'a', 0, 0x7f, 0x80, 0x7ff, 0x800, 0x20ac, 0xffff, 0x10000, 0x10ffff}[r.Intn(10)])
	}
	if r.Intn(8) == 0 {
		b.WriteByte(0xff)
	}
	return b.String()
}

func anyCall(r *rand.Rand) call {
	c := call{[]byte{closes, gets, wrongs, cuts}[r.Intn(4)], anyCode(r), ""}
	if c.kind == closes {
		c.reason = anyReason(r)
	}
	return c
}

func TestP19_1Any(t *testing.T) {
	r := rand.New(rand.NewSource(191))
	for range 60000 {
		x := newTwin(t)
		for range 6 {
			x.ask(anyCall(r))
		}
	}
}

// carry brings a close to the other side, as bytes, and is the code that it hears.
func carry(t *testing.T, p api.Piece) uint32 {
	t.Helper()
	if !wsframe.May(p) || p.Mask || p.Op != api.CloseOp {
		t.Fatal("no close that may be", p)
	}
	q, wrong := wsframe.Get(wsframe.Put(p), false)
	if wrong != (api.Fault{}) {
		t.Fatal(wrong)
	}
	n, ok := message.New().Take(q)
	if !ok || n.Kind != api.GotClose {
		t.Fatal(n)
	}
	return n.Code
}

// heardOf is the code by which a close is heard that is to tell this one.
func heardOf(code uint32) uint32 {
	if mayTell(code) {
		return code
	}
	return api.CloseNone
}

// One side closes, the other one answers: both are closed, by the code of the one.
func TestP19_1BothEnds(t *testing.T) {
	for code := range uint32(6000) {
		a, b := closing.New(), closing.New()
		p, ok := a.Close(code, "why")
		if !ok || a.Through() {
			t.Fatal(code, p)
		}
		q, ok := b.Got(carry(t, p))
		if !ok {
			t.Fatal(code, "is not answered")
		}
		if _, ok := a.Got(carry(t, q)); ok {
			t.Fatal(code, "is answered twice")
		}
		want := api.End{Cause: api.EndedClosed, Code: heardOf(code)}
		if a.End() != want || b.End() != want || !a.Sent() || !b.Sent() {
			t.Fatal(code, a.End(), b.End())
		}
	}
}

// Both sides close, and their closes pass each other: each one is closed by the other one's code.
func TestP19_1Crossing(t *testing.T) {
	codes := []uint32{999, 1000, 1001, 1004, 1005, 1006, 1007, 1014, 1015, 2999, 3000, 4999, 5000}
	for _, one := range codes {
		for _, other := range codes {
			a, b := closing.New(), closing.New()
			p, _ := a.Close(one, "one")
			q, _ := b.Close(other, "other")
			_, first := a.Got(carry(t, q))
			_, second := b.Got(carry(t, p))
			if first || second {
				t.Error(one, other, "a close is sent twice")
			}
			if a.End() != (api.End{Cause: api.EndedClosed, Code: heardOf(other)}) || b.End() != (api.End{Cause: api.EndedClosed, Code: heardOf(one)}) {
				t.Error(one, other, a.End(), b.End())
			}
		}
	}
}

// watch does a call of a door, and looks that no second close is sent, that Sent tells of just the one, and that an end stays.
func watch(t *testing.T, d *closing.Door, c call, count int) int {
	t.Helper()
	before := d.End()
	x := ask(d, c)
	if x.ok {
		count++
	}
	if count > 1 || x.sent != (count == 1) {
		t.Fatalf("%v: %d closes, %v", c, count, x)
	}
	if before.Cause != api.NotEnded && (x.end != before || x.ok) {
		t.Fatalf("%v: %v behind %v", c, x, before)
	}
	if x.through != (x.end.Cause != api.NotEnded) || !x.through && x.end != (api.End{}) {
		t.Fatalf("%v: %v", c, x)
	}
	return count
}

func TestP19_2Rows(t *testing.T) {
	eachRow(5, func(row []call) {
		d := closing.New()
		count := 0
		for _, c := range row {
			count = watch(t, d, c, count)
		}
	})
}

func TestP19_2Any(t *testing.T) {
	r := rand.New(rand.NewSource(192))
	for range 5000 {
		d := closing.New()
		count := 0
		for range 40 {
			count = watch(t, d, anyCall(r), count)
		}
		if !d.Through() {
			t.Fatal("40 calls, and no end")
		}
	}
}

// A door to which nothing but Close comes sends one close and has no end, however often it is to close.
func TestP19_2CloseAgain(t *testing.T) {
	r := rand.New(rand.NewSource(193))
	for range 200 {
		d := closing.New()
		count := 0
		for range 50 {
			count = watch(t, d, call{closes, anyCode(r), anyReason(r)}, count)
		}
		if count != 1 || d.Through() {
			t.Fatal(count, d.End())
		}
	}
}
