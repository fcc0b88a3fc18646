package utf_test

import (
	"bytes"
	"math/rand"
	"strings"
	"sync"
	"testing"
	"unicode/utf8"

	"louver/utf"
)

const (
	letters   = 0x110000 // all numbers of letters are below it
	firstGap  = 0xd800   // from it to lastGap no number is a letter's
	lastGap   = 0xdfff
	beginning = 1 // of a letter, but not all of it
	letter    = 2
)

// write is a number in so many bytes, as the chapter says, be it a letter or not, and in as few as can be or not.
func write(n, size int) []byte {
	switch size {
	case 1:
		return []byte{byte(n)}
	case 2:
		return []byte{0xc0 + byte(n/64), 0x80 + byte(n%64)}
	case 3:
		return []byte{0xe0 + byte(n/4096), 0x80 + byte(n/64%64), 0x80 + byte(n%64)}
	}
	return []byte{0xf0 + byte(n/262144), 0x80 + byte(n/4096%64), 0x80 + byte(n/64%64), 0x80 + byte(n%64)}
}

// fewest is in how many bytes a number is written.
func fewest(n int) int {
	switch {
	case n < 0x80:
		return 1
	case n < 0x800:
		return 2
	case n < 0x10000:
		return 3
	}
	return 4
}

func isLetter(n int) bool {
	return n >= 0 && n < letters && (n < firstGap || n > lastGap)
}

// known are all letters as they are written, and all beginnings of them.
var known = sync.OnceValue(func() map[string]int {
	all := map[string]int{}
	for n := range letters {
		if !isLetter(n) {
			continue
		}
		b := write(n, fewest(n))
		for i := 1; i < len(b); i++ {
			all[string(b[:i])] = beginning
		}
		all[string(b)] = letter
	}
	return all
})

// model does what the chapter says by looking into all letters there are.
type model struct {
	known map[string]int
	begun []byte
	bad   bool
}

func newModel() *model { return &model{known: known()} }

func (m *model) feed(b []byte) int {
	if m.bad {
		return 0
	}
	for i, x := range b {
		m.begun = append(m.begun, x)
		switch m.known[string(m.begun)] {
		case letter:
			m.begun = m.begun[:0]
		case beginning:
		default:
			m.bad = true
			return i
		}
	}
	return len(b)
}

func (m *model) whole() bool { return !m.bad && len(m.begun) == 0 }

// twin is a checker and its model, held against each other in every call.
type twin struct {
	t *testing.T
	c *utf.Checker
	m *model
}

func newTwin(t *testing.T) *twin {
	t.Helper()
	x := &twin{t, utf.New(), newModel()}
	x.check("New")
	return x
}

func (x *twin) check(call string) {
	for range 2 {
		if x.c.Bad() != x.m.bad || x.c.Whole() != x.m.whole() {
			x.t.Helper()
			x.t.Fatalf("behind %s: bad %v, whole %v, wanted %v, %v", call, x.c.Bad(), x.c.Whole(), x.m.bad, x.m.whole())
		}
	}
}

func (x *twin) feed(b []byte) int {
	x.t.Helper()
	got, want := x.c.Feed(b), x.m.feed(b)
	if got != want {
		x.t.Fatalf("Feed(% x): %d, wanted %d", b, got, want)
	}
	x.check("Feed")
	return got
}

// outcome is what comes of bytes: how many are read, and what the checker is behind them.
type outcome struct {
	n          int
	bad, whole bool
}

// read is what comes of bytes that come in these pieces.
func read(pieces ...[]byte) outcome {
	c := utf.New()
	n := 0
	for _, p := range pieces {
		n += c.Feed(p)
	}
	return outcome{n, c.Bad(), c.Whole()}
}

func (o outcome) check(t *testing.T, b []byte, want outcome) {
	if o != want {
		t.Helper()
		t.Fatalf("% x: %v, wanted %v", b, o, want)
	}
}

// rows are bytes, how many of them are read, and whether they are a text.
var rows = []struct {
	b     string
	n     int
	whole bool
}{
	{"", 0, true},
	{"\x00", 1, true},
	{"abc", 3, true},
	{"\x7f", 1, true},
	{"\x80", 0, false},
	{"\xbf", 0, false},
	{"a\x80", 1, false},
	{"\xc0", 0, false},
	{"\xc1", 0, false},
	{"\xc2", 1, false},
	{"\xc2\x7f", 1, false},
	{"\xc2\x80", 2, true},
	{"\xc2\xbf", 2, true},
	{"\xc2\xc0", 1, false},
	{"\xc2\xc2\x80", 1, false},
	{"\xdf\xbf", 2, true},
	{"\xdf\xbf\x80", 2, false},
	{"\xe0", 1, false},
	{"\xe0\x80", 1, false},
	{"\xe0\x9f", 1, false},
	{"\xe0\xa0", 2, false},
	{"\xe0\xa0\x7f", 2, false},
	{"\xe0\xa0\x80", 3, true},
	{"\xe0\xa0\xc0", 2, false},
	{"\xe0\xbf\xbf", 3, true},
	{"\xe1\x7f", 1, false},
	{"\xe1\x80\x80", 3, true},
	{"\xe1\xc0", 1, false},
	{"\xe2\x82", 2, false},
	{"\xe2\x82\xac", 3, true},
	{"\xe2\x82a", 2, false},
	{"\xec\xbf\xbf", 3, true},
	{"\xed\x7f", 1, false},
	{"\xed\x80\x80", 3, true},
	{"\xed\x9f\xbf", 3, true},
	{"\xed\xa0", 1, false},
	{"\xed\xbf\xbf", 1, false},
	{"\xee\x80\x80", 3, true},
	{"\xef\xbb\xbf", 3, true},
	{"\xef\xbf\xbf", 3, true},
	{"\xf0", 1, false},
	{"\xf0\x80", 1, false},
	{"\xf0\x8f", 1, false},
	{"\xf0\x90", 2, false},
	{"\xf0\x90\x80", 3, false},
	{"\xf0\x90\x80\x80", 4, true},
	{"\xf0\x90\x80\xc0", 3, false},
	{"\xf0\x90\xc0", 2, false},
	{"\xf0\xbf\xbf\xbf", 4, true},
	{"\xf0\xc0", 1, false},
	{"\xf1\x80\x80\x80", 4, true},
	{"\xf3\xbf\xbf\xbf", 4, true},
	{"\xf4\x7f", 1, false},
	{"\xf4\x80\x80\x80", 4, true},
	{"\xf4\x8f\xbf\xbf", 4, true},
	{"\xf4\x90", 1, false},
	{"\xf4\x8f\xbf\xbf\xbf", 4, false},
	{"\xf5", 0, false},
	{"\xf8", 0, false},
	{"\xfc", 0, false},
	{"\xfe", 0, false},
	{"\xff", 0, false},
	{"a\xc3\xa9\xe2\x82\xac\xf0\x90\x8d\x88z", 11, true},
	{"a\xc3\xa9\xe2\x82\xac\xf0\x90\x8d", 9, false},
	{"\xed\x9f\xbf\xed\xa0\x80", 4, false}, // what holds of one letter's bytes holds of the next one's anew
	{"\xe0\xa0\x80\xe1\x80\x80", 6, true},
	{"\xf4\x8f\xbf\xbf\xf3\xbf\xbf\xbf", 8, true},
	{"\xed\x9f\xbf\xc2\xbf", 5, true},
}

func TestP15_1Rows(t *testing.T) {
	for _, x := range rows {
		b := []byte(x.b)
		read(b).check(t, b, outcome{x.n, x.n < len(b), x.whole})
		if utf.Valid(b) != x.whole {
			t.Errorf("Valid(% x): %v", b, !x.whole)
		}
	}
}

func TestP15_1New(t *testing.T) {
	x := newTwin(t)
	if x.c == nil || x.c.Bad() || !x.c.Whole() {
		t.Fatal("no bytes are a text")
	}
	x.feed(nil)
	x.feed([]byte{})
	if !utf.Valid(nil) || !utf.Valid([]byte{}) {
		t.Error("Valid: no bytes are a text")
	}
}

// TestP15_1Letters looks at each letter there is: it is a text, and what stands ahead of its last byte is the beginning of one.
func TestP15_1Letters(t *testing.T) {
	for n := range letters {
		if !isLetter(n) {
			continue
		}
		b := write(n, fewest(n))
		c := utf.New()
		for i := range b {
			if c.Feed(b[i:i+1]) != 1 || c.Bad() || c.Whole() != (i == len(b)-1) {
				t.Fatalf("letter %x, byte %d: bad %v, whole %v", n, i, c.Bad(), c.Whole())
			}
		}
		if !utf.Valid(b) || utf.Valid(b[:len(b)-1]) != (len(b) == 1) {
			t.Fatalf("letter %x: Valid", n)
		}
	}
}

// TestP15_1NoLetters looks at the numbers from 0xd800 to 0xdfff, and at those above all letters that four bytes can write.
func TestP15_1NoLetters(t *testing.T) {
	for n := firstGap; n <= lastGap; n++ {
		b := write(n, 3)
		read(b).check(t, b, outcome{1, true, false})
	}
	for n := letters; n < 1<<21; n++ {
		want := 0
		if n < 0x140000 { // its first byte is that of the last letters
			want = 1
		}
		b := write(n, 4)
		read(b).check(t, b, outcome{want, true, false})
	}
}

// TestP15_1TooLong looks at each number that is written in more bytes than it needs.
func TestP15_1TooLong(t *testing.T) {
	for size := 2; size <= 4; size++ {
		for n := 0; fewest(n) < size; n++ {
			b := write(n, size)
			want := 1
			if size == 2 { // no letter begins with such a byte
				want = 0
			}
			read(b).check(t, b, outcome{want, true, false})
		}
	}
}

// TestP15_1Short goes through all rows of up to two bytes, and what comes behind them at the edges.
func TestP15_1Short(t *testing.T) {
	for i := range 1 << 16 {
		b := []byte{byte(i >> 8), byte(i)}
		newTwin(t).feed(b)
		for _, last := range []byte{0, 0x7f, 0x80, 0x8f, 0x90, 0x9f, 0xa0, 0xbf, 0xc0, 0xff} {
			newTwin(t).feed(append(b[:2:2], last))
		}
	}
	for i := range 256 {
		newTwin(t).feed([]byte{byte(i)})
	}
}

// edges are bytes at which something changes.
var edges = []byte{
	0x00, 'a', 0x7f, 0x80, 0x81, 0x8f, 0x90, 0x9f, 0xa0, 0xbf, 0xc0, 0xc1, 0xc2, 0xdf,
	0xe0, 0xe1, 0xec, 0xed, 0xee, 0xef, 0xf0, 0xf1, 0xf3, 0xf4, 0xf5, 0xf7, 0xf8, 0xff,
}

// TestP15_1Edges goes through all rows of four bytes at which something changes.
func TestP15_1Edges(t *testing.T) {
	k := len(edges)
	for i := range k * k * k * k {
		b := []byte{edges[i/k/k/k], edges[i/k/k%k], edges[i/k%k], edges[i%k]}
		newTwin(t).feed(b)
		if utf.Valid(b) != utf8.Valid(b) {
			t.Fatalf("Valid(% x): %v", b, utf.Valid(b))
		}
	}
}

// TestP15_1BehindBad looks at what stands behind a byte by which a checker is bad: it reads nothing any more, and stays bad.
func TestP15_1BehindBad(t *testing.T) {
	for _, x := range rows {
		if x.n == len(x.b) {
			continue
		}
		p := newTwin(t)
		p.feed([]byte(x.b))
		for _, more := range []string{"", "a", "\x80", "\x80\x80", "\xc2\x80", x.b, "\xff"} {
			if n := p.feed([]byte(more)); n != 0 || !p.c.Bad() || p.c.Whole() {
				t.Errorf("% x, then % x: %d", x.b, more, n)
			}
		}
	}
}

// TestP15_1Calls goes through all rows of up to four calls with pieces at which something changes.
func TestP15_1Calls(t *testing.T) {
	pieces := []string{"", "a", "\x80", "\xc0", "\xc3", "\xa9", "\xe2\x82", "\xac", "\xe0", "\xed\x9f", "\xf0\x90", "\x8d\x88", "\xf4", "a\xf0"}
	k := len(pieces)
	for i := range k * k * k * k {
		x := newTwin(t)
		for rest := i; rest > 0; rest /= k {
			x.feed([]byte(pieces[rest%k]))
		}
	}
}

// anyText is a text of so many letters.
func anyText(r *rand.Rand, count int) []byte {
	var b []byte
	for range count {
		size := 1 + r.Intn(4)
		n := -1
		for !isLetter(n) || fewest(n) != size {
			n = r.Intn([]int{0x80, 0x800, 0x10000, letters}[size-1])
		}
		b = append(b, write(n, size)...)
	}
	return b
}

// anyBytes are a text, or one in which some bytes are others, or that is cut.
func anyBytes(r *rand.Rand, count int) []byte {
	b := anyText(r, count)
	for range r.Intn(3) {
		if len(b) > 0 {
			b[r.Intn(len(b))] = edges[r.Intn(len(edges))]
		}
	}
	return b[:len(b)-min(len(b), r.Intn(4))]
}

func TestP15_1Texts(t *testing.T) {
	r := rand.New(rand.NewSource(151))
	for range 3000 {
		b := anyText(r, r.Intn(60))
		read(b).check(t, b, outcome{len(b), false, true})
		if !utf.Valid(b) {
			t.Fatalf("Valid(% x)", b)
		}
	}
}

func TestP15_1Any(t *testing.T) {
	r := rand.New(rand.NewSource(1511))
	for range 50000 {
		b := anyBytes(r, r.Intn(12))
		x := newTwin(t)
		x.feed(b)
		if utf.Valid(b) != x.m.whole() || utf.Valid(b) != utf8.Valid(b) {
			t.Fatalf("Valid(% x): %v", b, utf.Valid(b))
		}
	}
}

// TestP15_1Long looks that a wrong byte is met wherever it stands in many.
func TestP15_1Long(t *testing.T) {
	text := []byte(strings.Repeat("a\u00e9\u20ac\U00010348", 1<<16))
	read(text).check(t, text[:10], outcome{len(text), false, true})
	for _, at := range []int{0, 1, 2, 4, 10, len(text) / 2, len(text) - 1} {
		b := bytes.Clone(text)
		b[at] = 0xff
		if got, want := read(b), (outcome{at, true, false}); got != want || utf.Valid(b) {
			t.Errorf("wrong at %d: %v", at, got)
		}
	}
}

func TestP15_1Nil(t *testing.T) {
	var c *utf.Checker
	for _, b := range [][]byte{nil, {}, []byte("a"), {0xc0}, {0xe2, 0x82}} {
		if n := c.Feed(b); n != 0 || !c.Bad() || c.Whole() {
			t.Errorf("% x: %d, bad %v, whole %v", b, n, c.Bad(), c.Whole())
		}
	}
}

// TestP15_1Memory looks that what is handed in isn't changed and isn't kept.
func TestP15_1Memory(t *testing.T) {
	for _, x := range rows {
		b := []byte(x.b)
		c := utf.New()
		c.Feed(b)
		utf.Valid(b)
		if string(b) != x.b {
			t.Fatalf("% x became % x", x.b, b)
		}
		for i := range b {
			b[i] = 0xff
		}
		if c.Bad() != (x.n < len(b)) || c.Whole() != x.whole {
			t.Fatalf("% x: bad %v, whole %v", x.b, c.Bad(), c.Whole())
		}
	}
	c := utf.New()
	b := []byte{0xe2, 0x82}
	c.Feed(b)
	b[0], b[1] = 0xf4, 0x90
	if n := c.Feed([]byte{0xac}); n != 1 || !c.Whole() {
		t.Errorf("a letter that was begun: %d, whole %v", n, c.Whole())
	}
}

// TestP15_1Apart looks that checkers know nothing of each other.
func TestP15_1Apart(t *testing.T) {
	x, y, z := newTwin(t), newTwin(t), newTwin(t)
	x.feed([]byte{0xf0})
	y.feed([]byte{0xed})
	z.feed([]byte{0xff})
	utf.Valid([]byte{0xe0})
	x.feed([]byte{0x90, 0x80})
	y.feed([]byte{0x9f, 0xbf})
	z.feed([]byte{'a'})
	x.feed([]byte{0x80})
	if !x.c.Whole() || !y.c.Whole() || !z.c.Bad() {
		t.Errorf("%v, %v, %v", x.c.Whole(), y.c.Whole(), z.c.Bad())
	}
}

// singles are bytes in pieces of one.
func singles(b []byte) [][]byte {
	var all [][]byte
	for i := range b {
		all = append(all, b[i:i+1])
	}
	return all
}

// checkCuts holds all ways to cut bytes in two and three against those that aren't cut.
func checkCuts(t *testing.T, b []byte) {
	t.Helper()
	want := read(b)
	read(singles(b)...).check(t, b, want)
	for i := range len(b) + 1 {
		read(b[:i], b[i:]).check(t, b, want)
		for k := i; k <= len(b); k++ {
			read(b[:i], b[i:k], b[k:]).check(t, b, want)
			read(b[:i], nil, b[i:k], nil, b[k:], nil).check(t, b, want)
		}
	}
}

func TestP15_2EachCut(t *testing.T) {
	for _, x := range rows {
		checkCuts(t, []byte(x.b))
		checkCuts(t, []byte("a\xf0\x90\x8d\x88"+x.b+"z"))
	}
	r := rand.New(rand.NewSource(152))
	for range 2000 {
		checkCuts(t, anyBytes(r, r.Intn(6)))
	}
}

func TestP15_2AnyPieces(t *testing.T) {
	r := rand.New(rand.NewSource(1521))
	for range 20000 {
		b := anyBytes(r, r.Intn(30))
		most := 1 + r.Intn(9)
		x := newTwin(t)
		n := 0
		for rest := b; len(rest) > 0; {
			size := min(r.Intn(most+1), len(rest))
			n += x.feed(rest[:size])
			rest = rest[size:]
		}
		outcome{n, x.c.Bad(), x.c.Whole()}.check(t, b, read(b))
	}
}

// TestP15_2AnyBytes cuts bytes that mostly are no text at once.
func TestP15_2AnyBytes(t *testing.T) {
	r := rand.New(rand.NewSource(1522))
	for range 20000 {
		b := make([]byte, r.Intn(8))
		for i := range b {
			b[i] = byte(r.Intn(256))
		}
		read(singles(b)...).check(t, b, read(b))
		if utf.Valid(b) != utf8.Valid(b) {
			t.Fatalf("Valid(% x): %v", b, utf.Valid(b))
		}
	}
}
