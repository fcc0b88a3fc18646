package prefix_test

import (
	"bytes"
	"math"
	"slices"
	"testing"

	"louver/api"
	"louver/prefix"
)

// noPrefixes are numbers of bits that no prefix has; some would be one if they lost their high bits.
var noPrefixes = []int{0, 9, -1, 10, -8, 16, 31, 32, 33, 63, 64, 65, 256, 256 + 5, 1<<16 + 5, math.MaxInt, math.MaxInt - 250, math.MaxInt32, math.MinInt, math.MinInt + 5, math.MinInt32}

// tooGreat are numbers above MaxInteger.
var tooGreat = []uint32{api.MaxInteger + 1, api.MaxInteger + 2, api.MaxInteger + 255, api.MaxInteger * 2, math.MaxInt32, math.MaxInt32 + 1, math.MaxUint32}

// firsts are first bytes whose bits above and in a prefix are set, or not, or by turns.
var firsts = []byte{0x00, 0xff, 0x55, 0xaa, 0x80, 0x7f, 0x01, 0xfe}

// behinds are what may stand behind a number, or ahead of it.
func behinds() [][]byte {
	return [][]byte{nil, {}, {0}, {0x7f}, {0x80}, {0xff}, {1, 2, 3}, bytes.Repeat([]byte{0x80}, 9), bytes.Repeat([]byte{0xff}, 9), make([]byte, 300)}
}

// numbers are those at and about which a prefix of so many bits has one byte more, the first and last ones, and some between.
func numbers(bits int) []uint32 {
	top := uint32(1)<<bits - 1
	l := []uint32{2, 3, 10, 42, 1000, 1337, 1 << 16, 12345678, 1 << 27, api.MaxInteger - 2, api.MaxInteger - 1, api.MaxInteger}
	for _, edge := range []uint32{0, top, top + 1<<7, top + 1<<14, top + 1<<21} {
		for n := edge - min(edge, 2); n <= edge+2; n++ {
			l = append(l, n)
		}
	}
	return l
}

// written is how the chapter has a number written, reckoned with places of 128 and no bits.
func written(bits int, first byte, n uint32) []byte {
	room := 1
	for range bits {
		room *= 2
	}
	above := int(first) / room * room
	if int(n) < room-1 {
		return []byte{byte(above + int(n))}
	}
	b := []byte{byte(above + room - 1)}
	rest := int(n) - (room - 1)
	for rest >= 128 {
		b = append(b, byte(128+rest%128))
		rest /= 128
	}
	return append(b, byte(rest))
}

// read is how the chapter has a number read: where it ends is looked for first.
func read(b []byte, bits int) (uint32, int, api.Errno) {
	if len(b) == 0 {
		return 0, 0, api.ErrShort
	}
	room := 1
	for range bits {
		room *= 2
	}
	n := int(b[0]) % room
	if n != room-1 {
		return uint32(n), 1, api.OK
	}
	last := 1 + slices.IndexFunc(b[1:], func(c byte) bool { return c < 128 })
	if last > 4 || last == 0 && len(b) > 5 {
		return 0, 0, api.ErrLong
	}
	if last == 0 {
		return 0, 0, api.ErrShort
	}
	place := 1
	for _, c := range b[1 : last+1] {
		n += int(c) % 128 * place
		place *= 128
	}
	if n > 1<<28 {
		return 0, 0, api.ErrLong
	}
	return uint32(n), last + 1, api.OK
}

// checkGet holds what Get answers against what is wanted.
func checkGet(t *testing.T, b []byte, bits int, n uint32, used int, e api.Errno) {
	t.Helper()
	if gotN, gotUsed, gotE := prefix.Get(b, bits); gotN != n || gotUsed != used || gotE != e {
		t.Fatalf("Get(%x, %d): %d %d %v, wanted %d %d %v", b, bits, gotN, gotUsed, gotE, n, used, e)
	}
}

// checkPut holds what Put and Size answer against what is wanted.
func checkPut(t *testing.T, ahead []byte, bits int, first byte, n uint32, want []byte) {
	t.Helper()
	if got := prefix.Put(ahead, bits, first, n); !bytes.Equal(got, append(slices.Clone(ahead), want...)) {
		t.Fatalf("Put(%x, %d, %x, %d): %x, wanted %x behind it", ahead, bits, first, n, got, want)
	}
	if size := prefix.Size(bits, n); size != len(want) {
		t.Fatalf("Size(%d, %d): %d, wanted %d", bits, n, size, len(want))
	}
}

// The numbers of RFC 7541, C.1, and the edges of all kinds of prefixes, written out.
func TestP2_1Known(t *testing.T) {
	for _, c := range []struct {
		bits  int
		first byte
		n     uint32
		want  string
	}{
		{5, 0, 10, "\x0a"},
		{5, 0, 1337, "\x1f\x9a\x0a"},
		{8, 0, 42, "\x2a"},
		{1, 0, 0, "\x00"},
		{1, 0xff, 0, "\xfe"},
		{1, 0, 1, "\x01\x00"},
		{1, 0xfe, 2, "\xff\x01"},
		{1, 0, 128, "\x01\x7f"},
		{1, 0, 129, "\x01\x80\x01"},
		{1, 0, api.MaxInteger, "\x01\xff\xff\xff\x7f"},
		{2, 0, 2, "\x02"},
		{2, 0x55, 3, "\x57\x00"},
		{4, 0x10, 14, "\x1e"},
		{4, 0x10, 15, "\x1f\x00"},
		{4, 0x1f, 16, "\x1f\x01"},
		{5, 0xe0, 30, "\xfe"},
		{5, 0xe0, 31, "\xff\x00"},
		{5, 0xe0, 32, "\xff\x01"},
		{7, 0x80, 126, "\xfe"},
		{7, 0x80, 127, "\xff\x00"},
		{7, 0x80, 128, "\xff\x01"},
		{7, 0x00, api.MaxInteger, "\x7f\x81\xff\xff\x7f"},
		{8, 0xff, 0, "\x00"},
		{8, 0xff, 254, "\xfe"},
		{8, 0x00, 255, "\xff\x00"},
		{8, 0x00, 256, "\xff\x01"},
		{8, 0x00, 255 + 1<<14 - 1, "\xff\xff\x7f"},
		{8, 0x00, 255 + 1<<14, "\xff\x80\x80\x01"},
		{8, 0x00, 255 + 1<<21 - 1, "\xff\xff\xff\x7f"},
		{8, 0x00, 255 + 1<<21, "\xff\x80\x80\x80\x01"},
		{8, 0x00, api.MaxInteger - 1, "\xff\x80\xfe\xff\x7f"},
		{8, 0x00, api.MaxInteger, "\xff\x81\xfe\xff\x7f"},
	} {
		checkPut(t, nil, c.bits, c.first, c.n, []byte(c.want))
		checkPut(t, []byte("ahead"), c.bits, c.first, c.n, []byte(c.want))
		checkGet(t, []byte(c.want), c.bits, c.n, len(c.want), api.OK)
	}
}

func TestP2_1Put(t *testing.T) {
	for bits := 1; bits <= 8; bits++ {
		for _, n := range numbers(bits) {
			for _, first := range firsts {
				for _, ahead := range behinds() {
					checkPut(t, ahead, bits, first, n, written(bits, first, n))
				}
			}
		}
	}
}

// Each first byte keeps its bits above the prefix, and loses those in it.
func TestP2_1PutFirst(t *testing.T) {
	for bits := 1; bits <= 8; bits++ {
		for first := range 256 {
			for n := range uint32(300) {
				checkPut(t, nil, bits, byte(first), n, written(bits, byte(first), n))
			}
		}
	}
}

func TestP2_1PutNothing(t *testing.T) {
	for _, ahead := range behinds() {
		for _, first := range firsts {
			for _, bits := range noPrefixes {
				for _, n := range append(numbers(5), tooGreat...) {
					checkPut(t, ahead, bits, first, n, nil)
				}
			}
			for bits := 1; bits <= 8; bits++ {
				for _, n := range tooGreat {
					checkPut(t, ahead, bits, first, n, nil)
				}
			}
		}
	}
}

// What is handed in is neither changed nor kept, also where there is room behind it, and where nothing is put.
func TestP2_1PutIsNew(t *testing.T) {
	for _, c := range []struct {
		bits int
		n    uint32
	}{{5, 10}, {5, 31}, {8, api.MaxInteger}, {0, 10}, {9, 10}, {5, api.MaxInteger + 1}} {
		whole := []byte("abcdefghijklmnop")
		got := prefix.Put(whole[:3], c.bits, 0, c.n)
		if string(whole) != "abcdefghijklmnop" {
			t.Error(c, "changed", string(whole))
		}
		want := slices.Clone(got)
		copy(whole, "ABCDEFGHIJKLMNOP")
		if !bytes.Equal(got, want) {
			t.Error(c, "kept")
		}
		got = got[:cap(got)]
		for i := range got {
			got[i] = '!'
		}
		if string(whole) != "ABCDEFGHIJKLMNOP" {
			t.Error(c, "shared", string(whole))
		}
	}
}

// Two numbers behind the same bytes don't touch each other.
func TestP2_1PutTwice(t *testing.T) {
	ahead := make([]byte, 3, 100)
	a, b := prefix.Put(ahead, 5, 0, 1337), prefix.Put(ahead, 5, 0, 1338)
	if !bytes.Equal(a, []byte{0, 0, 0, 31, 154, 10}) || !bytes.Equal(b, []byte{0, 0, 0, 31, 155, 10}) {
		t.Errorf("%x %x", a, b)
	}
	c, d := prefix.Put(a, 1, 0, 0), prefix.Put(a, 1, 0xff, 0)
	if c[len(a)] != 0 || d[len(a)] != 0xfe {
		t.Errorf("%x %x", c, d)
	}
}

func TestP2_1Get(t *testing.T) {
	const top = "\x1f"
	for _, c := range []struct {
		b    string
		n    uint32
		used int
		e    api.Errno
	}{
		{"", 0, 0, api.ErrShort},
		{"\x00", 0, 1, api.OK},
		{"\xe0", 0, 1, api.OK},
		{"\xfe\xff", 30, 1, api.OK},
		{"\x1e\x80\x80\x80\x80\x80\x80", 30, 1, api.OK},
		// It doesn't end.
		{top, 0, 0, api.ErrShort},
		{"\xff", 0, 0, api.ErrShort},
		{top + "\x80", 0, 0, api.ErrShort},
		{top + "\x80\x80", 0, 0, api.ErrShort},
		{top + "\x80\x80\x80", 0, 0, api.ErrShort},
		{top + "\x80\x80\x80\x80", 0, 0, api.ErrShort},
		{top + "\xff\xff\xff\xff", 0, 0, api.ErrShort},
		// Noughts stand at its end.
		{top + "\x00", 31, 2, api.OK},
		{top + "\x80\x00", 31, 3, api.OK},
		{top + "\x80\x80\x00", 31, 4, api.OK},
		{top + "\x80\x80\x80\x00", 31, 5, api.OK},
		{top + "\x9a\x8a\x80\x00", 1337, 5, api.OK},
		{top + "\x9a\x0a\x80\x00", 1337, 3, api.OK},
		// A fifth byte stands behind the first one.
		{top + "\x80\x80\x80\x80\x00", 0, 0, api.ErrLong},
		{top + "\x80\x80\x80\x80\x80", 0, 0, api.ErrLong},
		{top + "\x80\x80\x80\x80\x01", 0, 0, api.ErrLong},
		{top + "\xff\xff\xff\xff\xff", 0, 0, api.ErrLong},
		{top + "\x80\x80\x80\x80\x80\x00", 0, 0, api.ErrLong},
		{top + "\x80\x80\x80\x80\x80\x80\x80\x80\x80\x80\x80\x00", 0, 0, api.ErrLong},
		// It is too great, or just not.
		{top + "\xe1\xff\xff\x7f", api.MaxInteger, 5, api.OK},
		{top + "\xe2\xff\xff\x7f", 0, 0, api.ErrLong},
		{top + "\xff\xff\xff\x7f", 0, 0, api.ErrLong},
		{top + "\xe2\xff\xff\x7f\x00\x00", 0, 0, api.ErrLong},
		{top + "\xff\xff\xff\x7e", 1<<28 - 1<<21 + 30, 5, api.OK},
		{top + "\xff\xff\x7f", 1<<21 - 1 + 31, 4, api.OK},
	} {
		checkGet(t, []byte(c.b), 5, c.n, c.used, c.e)
	}
}

// MaxInteger is read with each prefix, and nothing above it; with one bit no four bytes tell more.
func TestP2_1GetGreatest(t *testing.T) {
	for bits := 1; bits <= 8; bits++ {
		top := uint32(1)<<bits - 1
		for rest := uint32(1<<28 - 300); rest < 1<<28; rest++ {
			b := []byte{byte(top), 0x80 | byte(rest), 0x80 | byte(rest>>7), 0x80 | byte(rest>>14), byte(rest >> 21)}
			if n := top + rest; n <= api.MaxInteger {
				checkGet(t, b, bits, n, 5, api.OK)
			} else {
				checkGet(t, b, bits, 0, 0, api.ErrLong)
			}
		}
	}
}

// That there is no such prefix is told first, whatever the bytes are.
func TestP2_1GetNoPrefix(t *testing.T) {
	for _, bits := range noPrefixes {
		for _, b := range append(behinds(), []byte{31, 154, 10}, []byte{1}, bytes.Repeat([]byte{0xff}, 5)) {
			checkGet(t, b, bits, 0, 0, api.ErrArg)
		}
	}
}

func TestP2_1GetNil(t *testing.T) {
	for bits := 1; bits <= 8; bits++ {
		checkGet(t, nil, bits, 0, 0, api.ErrShort)
		checkGet(t, []byte{}, bits, 0, 0, api.ErrShort)
	}
}

// All rows of up to two bytes, and of up to seven ones that are at the edges.
func TestP2_1GetAll(t *testing.T) {
	check := func(b []byte) {
		for bits := 1; bits <= 8; bits++ {
			n, used, e := read(b, bits)
			checkGet(t, b, bits, n, used, e)
		}
	}
	for a := range 256 {
		check([]byte{byte(a)})
		for b := range 256 {
			check([]byte{byte(a), byte(b)})
		}
	}
	var grow func(b []byte)
	grow = func(b []byte) {
		check(b)
		if len(b) == 7 {
			return
		}
		for _, c := range []byte{0, 1, 0x7f, 0x80, 0x81, 0xff} {
			grow(append(b, c))
		}
	}
	grow(make([]byte, 0, 7))
}

func TestP2_1GetLeavesBytes(t *testing.T) {
	for _, s := range []string{"\x1f\x9a\x0a\x07", "\x1f\x80\x80\x80\x80\x80", "\x1f\x80", "\x0a"} {
		b := []byte(s)
		for bits := 0; bits <= 9; bits++ {
			prefix.Get(b, bits)
		}
		if string(b) != s {
			t.Errorf("%x %x", s, b)
		}
	}
}

func TestP2_1Size(t *testing.T) {
	for _, c := range []struct {
		bits int
		n    uint32
		want int
	}{
		{1, 0, 1}, {1, 1, 2}, {1, 128, 2}, {1, 129, 3}, {1, api.MaxInteger, 5},
		{5, 30, 1}, {5, 31, 2}, {5, 158, 2}, {5, 159, 3}, {5, 16414, 3}, {5, 16415, 4}, {5, 2097182, 4}, {5, 2097183, 5},
		{8, 254, 1}, {8, 255, 2}, {8, 382, 2}, {8, 383, 3}, {8, api.MaxInteger, 5},
		{0, 0, 0}, {9, 0, 0}, {-1, 1, 0}, {5, api.MaxInteger + 1, 0}, {8, math.MaxUint32, 0}, {0, math.MaxUint32, 0},
	} {
		if got := prefix.Size(c.bits, c.n); got != c.want {
			t.Error(c, got)
		}
	}
}

// checkBack puts a number and reads it again: whole, whatever stands behind it, and not from its beginnings.
func checkBack(t *testing.T, bits int, first byte, n uint32, behinds [][]byte) {
	t.Helper()
	put := prefix.Put(nil, bits, first, n)
	for _, behind := range behinds {
		checkGet(t, append(slices.Clone(put), behind...), bits, n, len(put), api.OK)
	}
	for i := range put {
		checkGet(t, put[:i], bits, 0, 0, api.ErrShort)
	}
}

func TestP2_2ThereAndBack(t *testing.T) {
	for bits := 1; bits <= 8; bits++ {
		for _, first := range firsts {
			for _, n := range numbers(bits) {
				checkBack(t, bits, first, n, behinds())
			}
		}
	}
}

// All numbers that aren't great, and those up to MaxInteger in wide steps.
func TestP2_2Many(t *testing.T) {
	behind := [][]byte{nil, {0xff, 0xff}}
	for bits := 1; bits <= 8; bits++ {
		for n := range uint32(1 << 16) {
			checkBack(t, bits, byte(n), n, behind)
		}
		for n := uint32(1 << 16); n <= api.MaxInteger; n += 9973 {
			checkBack(t, bits, byte(n), n, behind)
		}
	}
}

// Numbers that stand one behind the other are read one behind the other.
func TestP2_2Row(t *testing.T) {
	var b []byte
	for bits := 1; bits <= 8; bits++ {
		for _, n := range numbers(bits) {
			b = prefix.Put(b, bits, 0xaa, n)
		}
	}
	for bits := 1; bits <= 8; bits++ {
		for _, n := range numbers(bits) {
			got, used, e := prefix.Get(b, bits)
			if got != n || e != api.OK {
				t.Fatal(bits, n, got, used, e)
			}
			b = b[used:]
		}
	}
	if len(b) != 0 {
		t.Errorf("%x is left", b)
	}
}
