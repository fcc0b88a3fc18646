package huffman_test

import (
	"bytes"
	"encoding/hex"
	"math"
	"slices"
	"strconv"
	"strings"
	"testing"

	"louver/api"
	"louver/huffman"
)

// rows are the signs by how many bits they have, as the chapter lists them.
var rows = map[int]string{
	5:  "48 to 50, 97, 99, 101, 105, 111, 115, 116",
	6:  "32, 37, 45 to 47, 51 to 57, 61, 65, 95, 98, 100, 102 to 104, 108 to 110, 112, 114, 117",
	7:  "58, 66 to 87, 89, 106, 107, 113, 118 to 122",
	8:  "38, 42, 44, 59, 88, 90",
	10: "33, 34, 40, 41, 63",
	11: "39, 43, 124",
	12: "35, 62",
	13: "0, 36, 64, 91, 93, 126",
	14: "94, 125",
	15: "60, 96, 123",
	19: "92, 195, 208",
	20: "128, 130, 131, 162, 184, 194, 224, 226",
	21: "153, 161, 167, 172, 176, 177, 179, 209, 216, 217, 227, 229, 230",
	22: "129, 132 to 134, 136, 146, 154, 156, 160, 163, 164, 169, 170, 173, 178, 181, 185 to 187, 189, 190, 196, 198, 228, 232, 233",
	23: "1, 135, 137 to 141, 143, 147, 149 to 152, 155, 157, 158, 165, 166, 168, 174, 175, 180, 182, 183, 188, 191, 197, 231, 239",
	24: "9, 142, 144, 145, 148, 159, 171, 206, 215, 225, 236, 237",
	25: "199, 207, 234, 235",
	26: "192, 193, 200 to 202, 205, 210, 213, 218, 219, 238, 240, 242, 243, 255",
	27: "203, 204, 211, 212, 214, 221 to 223, 241, 244 to 248, 250 to 254",
	28: "2 to 8, 11, 12, 14 to 21, 23 to 31, 127, 220, 249",
	30: "10, 13, 22, 256",
}

// noSigns are numbers of no sign; most of them would be one if they lost their high bits.
var noSigns = []int{-1, 257, -2, 258, -48, -208, -256, -257, 300, 511, 512, 512 + 48, 1 << 16, 1<<16 + 48, math.MaxInt16, math.MinInt16, math.MaxInt32, math.MinInt32, math.MinInt32 + 48, math.MaxInt, math.MaxInt - 255, math.MinInt, math.MinInt + 48, math.MinInt + 256}

// known are texts of RFC 7541, C.4 and C.6, with their writings.
var known = map[string]string{
	"www.example.com":               "f1e3c2e5f23a6ba0ab90f4ff",
	"no-cache":                      "a8eb10649cbf",
	"custom-key":                    "25a849e95ba97d7f",
	"custom-value":                  "25a849e95bb8e8b4bf",
	"302":                           "6402",
	"307":                           "640eff",
	"private":                       "aec3771a4b",
	"gzip":                          "9bd9ab",
	"Mon, 21 Oct 2013 20:13:21 GMT": "d07abe941054d444a8200595040b8166e082a62d1bff",
	"Mon, 21 Oct 2013 20:13:22 GMT": "d07abe941054d444a8200595040b8166e084a62d1bff",
	"https://www.example.com":       "9d29ad171863c78f0b97c8e9ae82ae43d3",
	"foo=ASDJKHQKBZXOQWEOPIUAXQWEOIU; max-age=3600; version=1": "94e7821dd7f2e6c7b335dfdfcd5b3960d5af27087f3672c1ab270fb5291f9587316065c003ed4ee5b1063d5007",
}

// book are the signs' codes as texts of noughts and ones, made from the rows as the chapter says.
type book struct {
	codes [257]string
	signs map[string]int
}

func newBook(t *testing.T) *book {
	t.Helper()
	k := &book{signs: map[string]int{}}
	ahead := ""
	for bits := range 31 {
		for _, sign := range row(t, rows[bits]) {
			if ahead != "" {
				ahead = oneMore(ahead)
			}
			ahead += strings.Repeat("0", bits-len(ahead))
			k.codes[sign] = ahead
			k.signs[ahead] = sign
		}
	}
	if len(k.signs) != 257 {
		t.Fatal("the rows have not all signs, or one twice")
	}
	return k
}

// row are the signs that a row lists.
func row(t *testing.T, list string) []int {
	t.Helper()
	var l []int
	for part := range strings.SplitSeq(list, ", ") {
		if part == "" {
			continue
		}
		from, to, far := strings.Cut(part, " to ")
		if !far {
			to = from
		}
		first, err := strconv.Atoi(from)
		last, err2 := strconv.Atoi(to)
		if err != nil || err2 != nil {
			t.Fatal(part)
		}
		for sign := first; sign <= last; sign++ {
			l = append(l, sign)
		}
	}
	return l
}

// oneMore is the number behind one, both of noughts and ones, of as many of them.
func oneMore(code string) string {
	nought := strings.LastIndexByte(code, '0')
	return code[:nought] + "1" + strings.Repeat("0", len(code)-nought-1)
}

// bitsOf are the codes of a text's bytes, one behind the other.
func (k *book) bitsOf(s string) string {
	var bits strings.Builder
	for i := range len(s) {
		bits.WriteString(k.codes[s[i]])
	}
	return bits.String()
}

// written is a text's writing.
func (k *book) written(s string) []byte {
	return packed(k.bitsOf(s))
}

// packed are noughts and ones as bytes, filled up with ones.
func packed(bits string) []byte {
	for len(bits)%8 != 0 {
		bits += "1"
	}
	b := []byte{}
	for ; bits != ""; bits = bits[8:] {
		n, _ := strconv.ParseUint(bits[:8], 2, 8)
		b = append(b, byte(n))
	}
	return b
}

// read is the text of a writing, as the chapter has it.
func (k *book) read(b []byte) (string, api.Errno) {
	var bits strings.Builder
	for _, c := range b {
		bits.WriteString(strconv.FormatUint(256+uint64(c), 2)[1:])
	}
	rest, n, text := bits.String(), 0, []byte{}
	for n < len(rest) {
		n++
		sign, ok := k.signs[rest[:n]]
		if sign == 256 {
			return "", api.ErrForm
		}
		if ok {
			text = append(text, byte(sign))
			rest, n = rest[n:], 0
		}
	}
	if len(rest) > 7 || strings.Contains(rest, "0") {
		return "", api.ErrForm
	}
	return string(text), api.OK
}

// texts are ordinary ones, none, each byte alone and several times, and rows of bytes of all kinds.
func texts() []string {
	l := []string{"", "a", "hello", "GET", "/index.html", "äöü€", "\x00\x00", "\xff\xff\xff", "\xc0\x80", "0\x0a0", "\x0a\x0d\x16", strings.Repeat("0", 1000), strings.Repeat("\n", 1000)}
	all := make([]byte, 256)
	for i := range all {
		all[i] = byte(i)
		for _, times := range []int{1, 2, 3, 4, 5, 8} {
			l = append(l, strings.Repeat(string(all[i:i+1]), times))
		}
	}
	l = append(l, string(all))
	slices.Reverse(all)
	l = append(l, string(all), strings.Repeat(string(all), 50))
	for s := range known {
		l = append(l, s)
	}
	return l
}

// checkEncode holds what Encode and Size answer against what is wanted.
func checkEncode(t *testing.T, s string, want []byte) {
	t.Helper()
	if got := huffman.Encode(s); !bytes.Equal(got, want) {
		t.Fatalf("Encode(%q): %x, wanted %x", s, got, want)
	}
	if size := huffman.Size(s); size != len(want) {
		t.Fatalf("Size(%q): %d, wanted %d", s, size, len(want))
	}
}

// checkDecode holds what Decode answers against what is wanted.
func checkDecode(t *testing.T, b []byte, want string, e api.Errno) {
	t.Helper()
	if got, gotE := huffman.Decode(b); got != want || gotE != e {
		t.Fatalf("Decode(%x): %q %v, wanted %q %v", b, got, gotE, want, e)
	}
}

func TestP3_1CodeKnown(t *testing.T) {
	for _, c := range []struct {
		sign int
		code uint32
		bits int
	}{
		{48, 0, 5}, {49, 1, 5}, {97, 3, 5}, {116, 9, 5},
		{32, 0x14, 6}, {58, 0x5c, 7}, {122, 0x7b, 7}, {38, 0xf8, 8}, {90, 0xfd, 8}, {33, 0x3f8, 10}, {39, 0x7fa, 11}, {35, 0xffa, 12},
		{0, 0x1ff8, 13}, {94, 0x3ffc, 14}, {60, 0x7ffc, 15}, {92, 0x7fff0, 19}, {128, 0xfffe6, 20}, {1, 0x7fffd8, 23},
		{255, 0x3ffffee, 26}, {254, 0x7fffff0, 27}, {249, 0xffffffe, 28},
		{10, 0x3ffffffc, 30}, {13, 0x3ffffffd, 30}, {22, 0x3ffffffe, 30}, {256, 0x3fffffff, 30},
	} {
		if code, bits := huffman.Code(c.sign); code != c.code || bits != c.bits {
			t.Errorf("%d: %x %d, wanted %x %d", c.sign, code, bits, c.code, c.bits)
		}
	}
}

func TestP3_1Code(t *testing.T) {
	for sign, want := range newBook(t).codes {
		n, err := strconv.ParseUint(want, 2, 32)
		if err != nil {
			t.Fatal(err)
		}
		if code, bits := huffman.Code(sign); code != uint32(n) || bits != len(want) {
			t.Errorf("%d: %x %d, wanted %x %d", sign, code, bits, n, len(want))
		}
	}
}

func TestP3_1CodeNoSign(t *testing.T) {
	for _, sign := range noSigns {
		if code, bits := huffman.Code(sign); code != 0 || bits != 0 {
			t.Error(sign, code, bits)
		}
	}
	for far := range 1000 {
		for _, sign := range []int{-1 - far, 257 + far} {
			if code, bits := huffman.Code(sign); code != 0 || bits != 0 {
				t.Error(sign, code, bits)
			}
		}
	}
}

func TestP3_1Known(t *testing.T) {
	for s, writing := range known {
		b, err := hex.DecodeString(writing)
		if err != nil {
			t.Fatal(err)
		}
		checkEncode(t, s, b)
		checkDecode(t, b, s, api.OK)
	}
}

func TestP3_1Encode(t *testing.T) {
	k := newBook(t)
	for _, s := range texts() {
		checkEncode(t, s, k.written(s))
	}
}

// A writing is filled up with as many ones as are missing, from none to seven.
func TestP3_1EncodeFilled(t *testing.T) {
	for s, want := range map[string]string{
		"":         "",
		"&":        "\xf8",                 // 8 bits
		"&&":       "\xf8\xf8",             // 16
		"00000000": "\x00\x00\x00\x00\x00", // 40
		":":        "\xb9",                 // 7, and a one
		" ":        "\x53",                 // 6, and two
		"a":        "\x1f",                 // 5, and three
		"\x00!0":   "\xff\xc7\xf0\x0f",     // 28, and four
		"\x00":     "\xff\xc7",             // 13, and five
		"!":        "\xfe\x3f",             // 10, and six
		"00000":    "\x00\x00\x00\x7f",     // 25, and seven
		"\x0a":     "\xff\xff\xff\xf3",     // 30, the longest
		"\x16":     "\xff\xff\xff\xfb",     // 30, the greatest
		"0\x0a":    "\x07\xff\xff\xff\x9f", // 35: the shortest one and the longest one
		"\x0a0":    "\xff\xff\xff\xf0\x1f", // the longest one and the shortest one
		"\xff":     "\xff\xff\xfb\xbf",     // 26
		"\x00\xff": "\xff\xc7\xff\xff\xdd", // 39: the first byte and the last one
	} {
		checkEncode(t, s, []byte(want))
		checkDecode(t, []byte(want), s, api.OK)
	}
}

// What is answered is new memory.
func TestP3_1EncodeIsNew(t *testing.T) {
	for _, s := range []string{"a", "www.example.com", "\x00\xff"} {
		first, want := huffman.Encode(s), newBook(t).written(s)
		second := huffman.Encode(s)
		for i := range first[:cap(first)] {
			first[:cap(first)][i] ^= 0x55
		}
		if !bytes.Equal(second, want) {
			t.Error(s, "shared")
		}
		checkEncode(t, s, want)
		checkDecode(t, want, s, api.OK)
	}
}

func TestP3_1Size(t *testing.T) {
	for _, c := range []struct {
		s    string
		want int
	}{
		{"", 0}, {"a", 1}, {":", 1}, {"&", 1}, {"!", 2}, {"&&", 2}, {"&0", 2}, {"00000000", 5}, {"000000000", 6},
		{"\x00", 2}, {"\x0a", 4}, {"\xff", 4}, {strings.Repeat("\x0a", 4), 15}, {strings.Repeat("\x0a", 5), 19},
		{strings.Repeat("0", 1<<16), 40960}, {strings.Repeat("\x16", 1<<16), 245760},
	} {
		if got := huffman.Size(c.s); got != c.want {
			t.Error(len(c.s), got, c.want)
		}
	}
}

func TestP3_1Decode(t *testing.T) {
	for _, c := range []struct{ b, want string }{
		{"", ""},
		{"\x1f", "a"},
		{"\x1c\x64", "abc"},
		{"\x00\x00\x00\x00\x00", "00000000"}, // nothing is left
		{"\xf8", "&"},
		{"\xb9", ":"},                 // a one is left
		{"\x00\x00\x00\x7f", "00000"}, // seven are
		{"\xf8\xfe\x3f", "&!"},        // six
		{"\xff\xc7", "\x00"},          // five
		{"\xff\xff\xfb\xbf", "\xff"},  // six, behind the last byte
		{"\xff\xff\xff\xf3", "\x0a"},  // two, behind the longest codes
		{"\xff\xff\xff\xf7", "\x0d"},
		{"\xff\xff\xff\xfb", "\x16"},
	} {
		checkDecode(t, []byte(c.b), c.want, api.OK)
	}
	checkDecode(t, nil, "", api.OK)
}

func TestP3_1DecodeWrong(t *testing.T) {
	for _, b := range []string{
		// More than seven bits are left, all of them ones.
		"\xff", "\xff\xff", "\xff\xff\xff", "\xf8\xff", "\xf8\xff\xff", "\xb9\xff", "\x53\xff", "\x1f\xff", "\x07\xff", "\x00\x00\x00\x7f\xff",
		// Up to seven are, not all of them ones.
		"\x1e", "\x1d", "\x1c", "\x18", "\x00", "\x50", "\x51", "\x52", "\xb8", "\xff\xc6", "\xff\xc0", "\x00\x00\x00\x7e", "\x00\x00\x00\x7c", "\x00\x00\x00\x7d", "\xff\xff\xff\xf0", "\xff\xff\xff\xf1", "\xff\xff\xff\xf2", "\xff\xff\xff\xec",
		// More than seven are, not all of them ones.
		"\xfe", "\xff\xfe", "\xff\xff\xfe", "\xf8\xfe", "\x1f\xfe", "\x07\xfe",
	} {
		checkDecode(t, []byte(b), "", api.ErrForm)
	}
}

// Eight ones more than a text's writing has are in no writing. One of those that fill it up, turned to a nought, may end another code.
func TestP3_1DecodeOnes(t *testing.T) {
	k := newBook(t)
	for _, s := range texts() {
		filled := k.written(s)
		for range 10 {
			checkDecode(t, append(filled, 0xff), "", api.ErrForm)
			filled = append(filled, 0xff)
		}
		filled = k.written(s)
		for left := range len(filled)*8 - len(k.bitsOf(s)) {
			wrong := slices.Clone(filled)
			wrong[len(wrong)-1] &^= 1 << left
			text, e := k.read(wrong)
			checkDecode(t, wrong, text, e)
		}
	}
}

// The end's code is in no writing: not alone, not ahead of a text, not behind one, not up to a whole byte, not with all ones behind it.
func TestP3_1DecodeEnd(t *testing.T) {
	k := newBook(t)
	end := strings.Repeat("1", 30)
	for _, s := range texts() {
		bits := k.bitsOf(s)
		for _, wrong := range []string{bits + end, end + bits, bits + end + bits, bits + end + end, bits + end + strings.Repeat("1", 64), bits + end + "0000000"} {
			checkDecode(t, packed(wrong), "", api.ErrForm)
		}
	}
	checkDecode(t, []byte("\x18\xff\xff\xff\xff"), "", api.ErrForm)
	checkDecode(t, []byte("\xff\xff\xff\xfc"), "", api.ErrForm)
	checkDecode(t, []byte("\xff\xff\xff\xfc\x7f"), "", api.ErrForm)
}

// What is cut off is the writing of the text's beginning only if what is left of the next code could fill it up.
func TestP3_1DecodeCut(t *testing.T) {
	k := newBook(t)
	for _, s := range texts() {
		if len(s) > 300 {
			continue
		}
		b := k.written(s)
		for i := range b {
			text, e := k.read(b[:i])
			checkDecode(t, b[:i], text, e)
		}
	}
	for _, c := range []struct {
		b, want string
		e       api.Errno
	}{
		{"\xff", "", api.ErrForm}, // of \xff\xc7
		{"\xff\xff\xff", "", api.ErrForm},
		{"\xff\xff", "", api.ErrForm},
		{"\xff\xff\xfb", "", api.ErrForm},
		{"\xf1", "w", api.OK}, // of www.example.com
		{"\xf1\xe3", "ww", api.OK},
		{"\xf1\xe3\xc2", "", api.ErrForm},
		{"\xf1\xe3\xc2\xe5\xf2\x3a\x6b\xa0\xab\x90\xf4", "", api.ErrForm},
	} {
		checkDecode(t, []byte(c.b), c.want, c.e)
	}
}

// A writing with a bit turned is another text's, or none.
func TestP3_1DecodeTurned(t *testing.T) {
	k := newBook(t)
	for s := range known {
		b := k.written(s)
		for i := range len(b) * 8 {
			b[i/8] ^= 1 << (i % 8)
			text, e := k.read(b)
			checkDecode(t, b, text, e)
			b[i/8] ^= 1 << (i % 8)
		}
	}
}

// All rows of up to two bytes, and of up to five ones that are at the edges.
func TestP3_1DecodeAll(t *testing.T) {
	k := newBook(t)
	check := func(b []byte) {
		text, e := k.read(b)
		checkDecode(t, b, text, e)
	}
	for first := range 256 {
		check([]byte{byte(first)})
		for second := range 256 {
			check([]byte{byte(first), byte(second)})
		}
	}
	var grow func(b []byte)
	grow = func(b []byte) {
		check(b)
		if len(b) == 5 {
			return
		}
		for _, c := range []byte{0, 0x1f, 0x7f, 0xf3, 0xfe, 0xff} {
			grow(append(b, c))
		}
	}
	grow(make([]byte, 0, 5))
}

// What is handed in is neither changed nor kept.
func TestP3_1DecodeLeavesBytes(t *testing.T) {
	for _, s := range []string{"\x1f", "\x1c\x64", "\xff\xc7", "\x1e", "\xff\xff\xff\xff"} {
		b := []byte(s)
		text, _ := huffman.Decode(b)
		if string(b) != s {
			t.Errorf("%x changed: %x", s, b)
		}
		want := strings.Clone(text)
		clear(b)
		if text != want {
			t.Errorf("%x kept", s)
		}
	}
}

// checkBack writes a text and reads it again.
func checkBack(t *testing.T, s string) {
	t.Helper()
	b := huffman.Encode(s)
	if back, e := huffman.Decode(b); back != s || e != api.OK {
		t.Fatalf("%q: %x: %q %v", s, b, back, e)
	}
	if size := huffman.Size(s); size != len(b) {
		t.Fatalf("%q: %x: %d", s, b, size)
	}
}

// checkForth reads a writing, and writes its text again; it tells whether there is one.
func checkForth(t *testing.T, b []byte) bool {
	t.Helper()
	s, e := huffman.Decode(b)
	if e != api.OK {
		return false
	}
	if again := huffman.Encode(s); !bytes.Equal(again, b) {
		t.Fatalf("%x: %q: %x", b, s, again)
	}
	return true
}

func TestP3_2ThereAndBack(t *testing.T) {
	for _, s := range texts() {
		checkBack(t, s)
	}
}

// Each byte stands behind each other one, alone and among all of them.
func TestP3_2Pairs(t *testing.T) {
	var all []byte
	for first := range 256 {
		for second := range 256 {
			pair := []byte{byte(first), byte(second)}
			checkBack(t, string(pair))
			all = append(all, pair...)
		}
	}
	checkBack(t, string(all))
}

// Texts of all lengths, of bytes in a row that doesn't soon begin anew.
func TestP3_2Many(t *testing.T) {
	n := uint32(1)
	for length := range 600 {
		s := make([]byte, length)
		for i := range s {
			n = n*1664525 + 1013904223
			s[i] = byte(n >> 24)
		}
		checkBack(t, string(s))
	}
}

// All rows of up to two bytes, and longer ones; writings are among all of them.
func TestP3_2Back(t *testing.T) {
	read := map[int]int{}
	check := func(b []byte) {
		if checkForth(t, b) {
			read[len(b)]++
		}
	}
	check(nil)
	for first := range 256 {
		check([]byte{byte(first)})
		for second := range 256 {
			check([]byte{byte(first), byte(second)})
		}
	}
	n := uint32(1)
	for range 20000 {
		n = n*1664525 + 1013904223
		check([]byte{byte(n >> 24), byte(n >> 16), byte(n>>8) | 0x1f})
		check([]byte{byte(n >> 24), 0xff, 0xff, byte(n>>16) | 0xc0, byte(n>>8) | 0x1f})
	}
	for _, length := range []int{0, 1, 2, 3, 5} {
		if read[length] == 0 {
			t.Error("no writing of so many bytes:", length)
		}
	}
}

// bitsOfSign is a sign's code as noughts and ones.
func bitsOfSign(t *testing.T, sign int) string {
	t.Helper()
	code, bits := huffman.Code(sign)
	text := strconv.FormatUint(uint64(code), 2)
	if bits < 1 || bits > 30 || code>>bits != 0 {
		t.Fatalf("%d: %x has not %d bits", sign, code, bits)
	}
	if code == 0 {
		text = ""
	}
	return strings.Repeat("0", bits-len(text)) + text
}

func TestP3_3NoneBeginsAnother(t *testing.T) {
	var codes [257]string
	for sign := range codes {
		codes[sign] = bitsOfSign(t, sign)
	}
	for a, begins := range codes {
		for b, code := range codes {
			if a != b && strings.HasPrefix(code, begins) {
				t.Error(a, b, begins, code)
			}
		}
	}
}

// All rows of 30 bits begin with a code: as many of them as there are.
func TestP3_3AllBits(t *testing.T) {
	filled := 0
	for sign := range 257 {
		filled += 1 << (30 - len(bitsOfSign(t, sign)))
	}
	if filled != 1<<30 {
		t.Errorf("%x rows of %x", filled, 1<<30)
	}
}

// Laid side by side, the rows that begin with a code are all rows, each one once.
func TestP3_3SideBySide(t *testing.T) {
	type rows struct{ from, to uint32 }
	var l []rows
	for sign := range 257 {
		code, bits := huffman.Code(sign)
		l = append(l, rows{code << (30 - bits), (code + 1) << (30 - bits)})
	}
	slices.SortFunc(l, func(a, b rows) int { return int(a.from) - int(b.from) })
	at := uint32(0)
	for _, r := range l {
		if r.from != at {
			t.Fatalf("%x behind %x", r.from, at)
		}
		at = r.to
	}
	if at != 1<<30 {
		t.Errorf("%x", at)
	}
}
