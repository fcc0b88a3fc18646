package hpack_test

import (
	"encoding/hex"
	"fmt"
	"math"
	"slices"
	"strings"
	"testing"
	"unsafe"

	"louver/api"
	"louver/hpack"
	"louver/huffman"
	"louver/statics"
)

// wrong is what most faults of a block are.
var wrong = api.Fault{Scope: api.ConnFault, Code: api.CompressError}

// calm is the fault of a list that is too great.
var calm = api.Fault{Scope: api.ConnFault, Code: api.Calm}

// model is one side as the chapter tells of it: its table's fields, the newest one first, and what it was limited to since the last block.
type model struct {
	fields []api.Field
	most   int
	told   []int // mosts since the last block; of a decoder none
	cap    int
}

func newModel(most uint32) *model {
	n := int(min(most, 4096))
	return &model{most: n, cap: n}
}

func sizeOf(l []api.Field) int {
	sum := 0
	for _, f := range l {
		sum += 32 + len(f.Name) + len(f.Value)
	}
	return sum
}

func (m *model) within() {
	for sizeOf(m.fields) > m.most {
		m.fields = m.fields[:len(m.fields)-1]
	}
}

func (m *model) add(f api.Field) {
	f.Never = false
	m.fields = append([]api.Field{f}, m.fields...)
	m.within()
}

// limit is what an encoder is told.
func (m *model) limit(most uint32) {
	m.most = int(min(most, 4096))
	m.told = append(m.told, m.most)
	m.within()
}

// ahead are the fields that are known ahead.
var ahead = func() (l []api.Field) {
	for n := range statics.Len() {
		f, _ := statics.At(n + 1)
		l = append(l, f)
	}
	return l
}()

// at is a number's field; it panics, if there is none.
func (m *model) at(n int) api.Field {
	if n <= len(ahead) {
		return ahead[n-1]
	}
	return m.fields[n-62]
}

// find is the number of the first field that suits, or 0.
func (m *model) find(suits func(api.Field) bool) int {
	for n := 1; n <= 61+len(m.fields); n++ {
		if suits(m.at(n)) {
			return n
		}
	}
	return 0
}

// put is a block of fields.
func (m *model) put(l []api.Field) string {
	s := ""
	if len(m.told) > 0 {
		lowest, last := slices.Min(m.told), m.told[len(m.told)-1]
		if lowest < last {
			s += writeNumber(0x20, 5, lowest)
		}
		s += writeNumber(0x20, 5, last)
		m.told = nil
	}
	for _, f := range l {
		s += m.putField(f)
	}
	return s
}

func (m *model) putField(f api.Field) string {
	n := m.find(func(g api.Field) bool { return g.Name == f.Name && g.Value == f.Value })
	if n > 0 && !f.Never {
		return writeNumber(0x80, 7, n)
	}
	if n == 0 {
		n = m.find(func(g api.Field) bool { return g.Name == f.Name })
	}
	s := writeNumber(0x10, 4, n)
	if !f.Never {
		s = writeNumber(0x40, 6, n)
		m.add(f)
	}
	if n == 0 {
		s += writeText(f.Name)
	}
	return s + writeText(f.Value)
}

// get are a block's fields, or a fault.
func (m *model) get(s string) (l []api.Field, fault api.Fault) {
	defer func() {
		if recover() != nil { // a byte that isn't there, or a field
			l, fault = nil, wrong
		}
	}()
	for s != "" {
		if s[0]>>5 == 1 {
			if m.most, s = readNumber(s, 5); m.most > m.cap || len(l) > 0 {
				panic("most")
			}
			m.within()
			continue
		}
		var f api.Field
		f, s = m.getField(s)
		l = append(l, f)
	}
	if sizeOf(l) > 4096 {
		return nil, calm
	}
	return l, api.Fault{}
}

func (m *model) getField(s string) (f api.Field, rest string) {
	first, n := s[0], 0
	if first >= 0x80 {
		n, s = readNumber(s, 7)
		return m.at(n), s
	}
	if first >= 0x40 {
		n, s = readNumber(s, 6)
	} else {
		n, s = readNumber(s, 4)
	}
	if n > 0 {
		f.Name = m.at(n).Name
	} else {
		f.Name, s = readText(s)
	}
	f.Value, s = readText(s)
	if first >= 0x40 {
		m.add(f)
	}
	f.Never = first>>4 == 1
	return f, s
}

func writeNumber(first byte, bits int, n int) string {
	top := 1<<bits - 1
	if n < top {
		return string([]byte{first | byte(n)})
	}
	b := []byte{first | byte(top)}
	for n -= top; n > 127; n /= 128 {
		b = append(b, 128+byte(n%128))
	}
	return string(append(b, byte(n)))
}

func writeText(s string) string {
	if w := huffman.Encode(s); len(w) < len(s) {
		return writeNumber(0x80, 7, len(w)) + string(w)
	}
	return writeNumber(0, 7, len(s)) + s
}

// readNumber is a number that a text begins with, and the rest; it panics, if there is none.
func readNumber(s string, bits int) (int, string) {
	top := 1<<bits - 1
	n := int(s[0]) & top
	if n < top {
		return n, s[1:]
	}
	for i := range 4 {
		c := s[1+i]
		n += int(c&127) << (7 * i)
		if c < 128 && n <= 1<<28 {
			return n, s[2+i:]
		}
	}
	panic("number")
}

// readText is a text that a text begins with, and the rest; it panics, if there is none.
func readText(s string) (string, string) {
	isCoded := s[0] >= 128
	n, s := readNumber(s, 7)
	if !isCoded {
		return s[:n], s[n:]
	}
	text, e := huffman.Decode([]byte(s[:n]))
	if e != api.OK {
		panic("text")
	}
	return text, s[n:]
}

// unhex are the bytes of hexadecimal digits, with spaces between.
func unhex(t *testing.T, s string) []byte {
	t.Helper()
	b, e := hex.DecodeString(strings.Join(strings.Fields(s), ""))
	if e != nil {
		t.Fatal(e)
	}
	return b
}

// tell is a list as a line, as far as that goes.
func tell(l []api.Field) string {
	return fmt.Sprintf("%.300s", fmt.Sprintf("%#v", l))
}

func checkPut(t *testing.T, e *hpack.Encoder, l []api.Field, want string) {
	t.Helper()
	if b := e.Put(l); string(b) != want {
		t.Fatalf("Put(%s): %.100x, wanted %.100x", tell(l), b, want)
	}
}

func checkGet(t *testing.T, d *hpack.Decoder, b string, want []api.Field, fault api.Fault) {
	t.Helper()
	if l, f := d.Get([]byte(b)); f != fault || !slices.Equal(l, want) {
		t.Fatalf("Get(%.100x): %s %v, wanted %s %v", b, tell(l), f, tell(want), fault)
	}
}

// checkNew is checkGet of a new decoder with the greatest cap.
func checkNew(t *testing.T, b string, want []api.Field, fault api.Fault) {
	t.Helper()
	checkGet(t, hpack.NewDecoder(4096), b, want, fault)
}

// field is a field, or a list of one.
func field(name, value string) api.Field { return api.Field{Name: name, Value: value} }

func one(name, value string) []api.Field { return []api.Field{field(name, value)} }

func secret(name, value string) []api.Field {
	return []api.Field{{Name: name, Value: value, Never: true}}
}

// numbered are so many fields with values of two bytes of their own; each one's size is 35.
func numbered(count int) []api.Field {
	var l []api.Field
	for i := range count {
		l = append(l, field("n", string([]byte{byte('a' + i/26), byte('a' + i%26)})))
	}
	return l
}

// filled are an encoder and a decoder, both with numbered fields in their tables; the number of the one that came as i-th is 61 + count - i.
func filled(t *testing.T, count int) (*hpack.Encoder, *hpack.Decoder, []api.Field) {
	t.Helper()
	e, d, l := hpack.NewEncoder(4096), hpack.NewDecoder(4096), numbered(count)
	checkGet(t, d, string(e.Put(l)), l, api.Fault{})
	if e.Table() != 35*count || d.Table() != 35*count {
		t.Fatal(e.Table(), d.Table())
	}
	return e, d, l
}

// requests and answers are the lists of RFC 7541, C.3 to C.6.
func requests() [][]api.Field {
	return [][]api.Field{
		{field(":method", "GET"), field(":scheme", "http"), field(":path", "/"), field(":authority", "www.example.com")},
		{field(":method", "GET"), field(":scheme", "http"), field(":path", "/"), field(":authority", "www.example.com"), field("cache-control", "no-cache")},
		{field(":method", "GET"), field(":scheme", "https"), field(":path", "/index.html"), field(":authority", "www.example.com"), field("custom-key", "custom-value")},
	}
}

func answers() [][]api.Field {
	return [][]api.Field{
		{field(":status", "302"), field("cache-control", "private"), field("date", "Mon, 21 Oct 2013 20:13:21 GMT"), field("location", "https://www.example.com")},
		{field(":status", "307"), field("cache-control", "private"), field("date", "Mon, 21 Oct 2013 20:13:21 GMT"), field("location", "https://www.example.com")},
		{field(":status", "200"), field("cache-control", "private"), field("date", "Mon, 21 Oct 2013 20:13:22 GMT"), field("location", "https://www.example.com"), field("content-encoding", "gzip"), field("set-cookie", "foo=ASDJKHQKBZXOQWEOPIUAXQWEOIU; max-age=3600; version=1")},
	}
}

// The rows of RFC 7541, C.3 to C.6: without the code of texts they are only read.
func TestP6_1Known(t *testing.T) {
	for _, c := range []struct {
		most   uint32
		lists  [][]api.Field
		coded  bool
		blocks [3]string
		sizes  [3]int
	}{
		{4096, requests(), false, [3]string{
			"8286 8441 0f77 7777 2e65 7861 6d70 6c65 2e63 6f6d",
			"8286 84be 5808 6e6f 2d63 6163 6865",
			"8287 85bf 400a 6375 7374 6f6d 2d6b 6579 0c63 7573 746f 6d2d 7661 6c75 65",
		}, [3]int{57, 110, 164}},
		{4096, requests(), true, [3]string{
			"8286 8441 8cf1 e3c2 e5f2 3a6b a0ab 90f4 ff",
			"8286 84be 5886 a8eb 1064 9cbf",
			"8287 85bf 4088 25a8 49e9 5ba9 7d7f 8925 a849 e95b b8e8 b4bf",
		}, [3]int{57, 110, 164}},
		{256, answers(), false, [3]string{
			"4803 3330 3258 0770 7269 7661 7465 611d 4d6f 6e2c 2032 3120 4f63 7420 3230 3133 2032 303a 3133 3a32 3120 474d 546e 1768 7474 7073 3a2f 2f77 7777 2e65 7861 6d70 6c65 2e63 6f6d",
			"4803 3330 37c1 c0bf",
			"88c1 611d 4d6f 6e2c 2032 3120 4f63 7420 3230 3133 2032 303a 3133 3a32 3220 474d 54c0 5a04 677a 6970 7738 666f 6f3d 4153 444a 4b48 514b 425a 584f 5157 454f 5049 5541 5851 5745 4f49 553b 206d 6178 2d61 6765 3d33 3630 303b 2076 6572 7369 6f6e 3d31",
		}, [3]int{222, 222, 215}},
		{256, answers(), true, [3]string{
			"4882 6402 5885 aec3 771a 4b61 96d0 7abe 9410 54d4 44a8 2005 9504 0b81 66e0 82a6 2d1b ff6e 919d 29ad 1718 63c7 8f0b 97c8 e9ae 82ae 43d3",
			"4883 640e ffc1 c0bf",
			"88c1 6196 d07a be94 1054 d444 a820 0595 040b 8166 e084 a62d 1bff c05a 839b d9ab 77ad 94e7 821d d7f2 e6c7 b335 dfdf cd5b 3960 d5af 2708 7f36 72c1 ab27 0fb5 291f 9587 3160 65c0 03ed 4ee5 b106 3d50 07",
		}, [3]int{222, 222, 215}},
	} {
		e, d := hpack.NewEncoder(c.most), hpack.NewDecoder(c.most)
		for i, l := range c.lists {
			block := string(unhex(t, c.blocks[i]))
			checkGet(t, d, block, l, api.Fault{})
			if d.Table() != c.sizes[i] {
				t.Error(i, d.Table())
			}
			if !c.coded {
				continue
			}
			// The standard writes 307 in the code, which has as many bytes; the chapter asks for fewer.
			checkPut(t, e, l, strings.ReplaceAll(block, "\x83\x64\x0e\xff", "\x03307"))
			if e.Table() != c.sizes[i] {
				t.Error(i, e.Table())
			}
		}
	}
}

// The pieces of RFC 7541, C.2.
func TestP6_1KnownPieces(t *testing.T) {
	for _, c := range []struct {
		block string
		want  []api.Field
		size  int
	}{
		{"400a 6375 7374 6f6d 2d6b 6579 0d63 7573 746f 6d2d 6865 6164 6572", one("custom-key", "custom-header"), 55},
		{"040c 2f73 616d 706c 652f 7061 7468", one(":path", "/sample/path"), 0},
		{"1008 7061 7373 776f 7264 0673 6563 7265 74", secret("password", "secret"), 0},
		{"82", one(":method", "GET"), 0},
	} {
		d := hpack.NewDecoder(4096)
		checkGet(t, d, string(unhex(t, c.block)), c.want, api.Fault{})
		if d.Table() != c.size {
			t.Error(c.block, d.Table())
		}
	}
}

// How each kind of field is written, and whether it is in the table then.
func TestP6_1PutKinds(t *testing.T) {
	for _, c := range []struct {
		l    []api.Field
		want string
		size int
	}{
		{nil, "", 0},
		{[]api.Field{}, "", 0},
		{one(":method", "GET"), "\x82", 0},
		{one(":authority", ""), "\x81", 0},
		{one("www-authenticate", ""), "\xbd", 0},
		{one(":method", "PUT"), "\x42\x03PUT", 42},
		{one(":status", "201"), "\x48\x82\x10\x03", 42},
		{one("www-authenticate", "x"), "\x7d\x01x", 49},
		{one("&", ""), "\x40\x01&\x00", 33},
		{one("&", "#"), "\x40\x01&\x01#", 34},
		{one("", ""), "\x40\x00\x00", 32},
		{one("", "#"), "\x40\x00\x01#", 33},
		{one("\xff\x00", "\n"), "\x40\x02\xff\x00\x01\n", 35},
		{secret(":method", "GET"), "\x12\x03GET", 0},
		{secret(":method", "POST"), "\x13\x04POST", 0},
		{secret(":method", "PUT"), "\x12\x03PUT", 0},
		{secret(":authority", ""), "\x11\x00", 0},
		{secret("accept-charset", ""), "\x1f\x00\x00", 0},
		{secret("www-authenticate", "x"), "\x1f\x2e\x01x", 0},
		{secret("&", ""), "\x10\x01&\x00", 0},
		{secret("", ""), "\x10\x00\x00", 0},
		{secret("a", "b"), "\x10\x01a\x01b", 0},
		{append(one("&", "#"), one("&", "#")...), "\x40\x01&\x01#\xbe", 34},
		{append(one("&", "#"), one("&", "*")...), "\x40\x01&\x01#\x7e\x01*", 68},
		{append(one("&", "#"), secret("&", "#")...), "\x40\x01&\x01#\x1f\x2f\x01#", 34},
		{append(one("&", "#"), secret("&", "*")...), "\x40\x01&\x01#\x1f\x2f\x01*", 34},
		{append(secret("&", "#"), one("&", "#")...), "\x10\x01&\x01#\x40\x01&\x01#", 34},
	} {
		if want := newModel(4096).put(c.l); want != c.want {
			t.Fatalf("the model: %x, wanted %x", want, c.want)
		}
		e, d := hpack.NewEncoder(4096), hpack.NewDecoder(4096)
		checkPut(t, e, c.l, c.want)
		checkGet(t, d, c.want, c.l, api.Fault{})
		if e.Table() != c.size || d.Table() != c.size {
			t.Errorf("%s %d %d", tell(c.l), e.Table(), d.Table())
		}
	}
}

// Of two fields with a name the newer one has the lower number, by which the name is told.
func TestP6_1PutLowest(t *testing.T) {
	e := hpack.NewEncoder(4096)
	checkPut(t, e, one("&", "1"), "\x40\x01&\x011")
	checkPut(t, e, one("&", "2"), "\x7e\x012")
	checkPut(t, e, one("&", "1"), "\xbf")
	checkPut(t, e, one("&", "3"), "\x7e\x013")
	checkPut(t, e, secret("&", "1"), "\x1f\x31\x011")
	checkPut(t, e, secret("&", "4"), "\x1f\x2f\x014")
	checkPut(t, e, one("&", "1"), "\xc0")
}

// Numbers at the edges of each prefix.
func TestP6_1PutNumbers(t *testing.T) {
	e, d, l := filled(t, 117)
	for _, c := range []struct {
		n    int
		want string
	}{{62, "\xbe"}, {63, "\xbf"}, {126, "\xfe"}, {127, "\xff\x00"}, {128, "\xff\x01"}, {178, "\xff\x33"}} {
		f := l[61+len(l)-c.n]
		checkPut(t, e, []api.Field{f}, c.want)
		checkGet(t, d, c.want, []api.Field{f}, api.Fault{})
	}
	for n := 1; n <= 61; n++ {
		f, _ := statics.At(n)
		b := string([]byte{byte(0x80 + n)})
		checkPut(t, e, []api.Field{f}, b)
		checkGet(t, d, b, []api.Field{f}, api.Fault{})
	}
	checkPut(t, e, secret("age", "#"), "\x1f\x06\x01#")
	checkPut(t, e, secret(":status", "#"), "\x18\x01#")
	for _, n := range []byte{14, 15, 16} { // fields with no name of their own can't be written so: they are only read
		f, _ := statics.At(int(n))
		f.Value = "#"
		head := map[byte]string{14: "\x0e", 15: "\x0f\x00", 16: "\x0f\x01"}[n]
		checkGet(t, d, head+"\x01#", []api.Field{f}, api.Fault{})
	}
	checkGet(t, d, "\x0f\xa3\x01\x01#", one("n", "#"), api.Fault{})
	checkGet(t, d, "\x0f\xa4\x01\x01#", nil, wrong)
}

// A name's number has six bits, where the field comes into the table: the newest ones of it need a second byte.
func TestP6_1PutNameNumbers(t *testing.T) {
	for _, c := range []struct {
		ahead int
		want  string
	}{{0, "\x7e\x01#"}, {1, "\x7f\x00\x01#"}, {2, "\x7f\x01\x01#"}} {
		e, d := hpack.NewEncoder(4096), hpack.NewDecoder(4096)
		checkGet(t, d, string(e.Put(one("&", "*"))), one("&", "*"), api.Fault{})
		l := numbered(c.ahead)
		checkGet(t, d, string(e.Put(l)), l, api.Fault{})
		checkPut(t, e, one("&", "#"), c.want)
		checkGet(t, d, c.want, one("&", "#"), api.Fault{})
	}
}

// A text is written in the code only if that has fewer bytes; lengths at the edges of their prefix.
func TestP6_1PutTexts(t *testing.T) {
	for _, c := range []struct{ value, want string }{
		{"", "\x00"},
		{"a", "\x01a"},                       // one byte, as it is
		{"aa", "\x02aa"},                     // two, as they are
		{"aaa", "\x82\x18\xc7"},              // two of three
		{"&&", "\x02&&"},                     // eight bits a letter
		{"&&a", "\x03&&a"},                   // 21 bits are three bytes
		{"\xff\xff\xff", "\x03\xff\xff\xff"}, // more than they are
		{strings.Repeat("#", 126), "\x7e" + strings.Repeat("#", 126)},
		{strings.Repeat("#", 127), "\x7f\x00" + strings.Repeat("#", 127)},
		{strings.Repeat("#", 128), "\x7f\x01" + strings.Repeat("#", 128)},
		{strings.Repeat("#", 254), "\x7f\x7f" + strings.Repeat("#", 254)},
		{strings.Repeat("#", 255), "\x7f\x80\x01" + strings.Repeat("#", 255)},
		{strings.Repeat("a", 201), "\xfe" + string(huffman.Encode(strings.Repeat("a", 201)))},
		{strings.Repeat("a", 202), "\xff\x00" + string(huffman.Encode(strings.Repeat("a", 202)))},
		{strings.Repeat("a", 4000), "\xff\xc5\x12" + string(huffman.Encode(strings.Repeat("a", 4000)))},
	} {
		for _, x := range []struct {
			f    api.Field
			want string
		}{
			{api.Field{Name: ":path", Value: c.value}, "\x44" + c.want},
			{api.Field{Name: "&", Value: c.value, Never: true}, "\x10\x01&" + c.want},
			{api.Field{Name: "&" + c.value, Value: c.value, Never: true}, "\x10" + writeText("&"+c.value) + c.want},
		} {
			l := []api.Field{x.f}
			checkPut(t, hpack.NewEncoder(4096), l, x.want)
			if len(x.f.Name+x.f.Value) <= 4096-32 {
				checkNew(t, x.want, l, api.Fault{})
			}
		}
	}
}

// One that is greater than the table is written as one that comes into it all the same; the table is empty then.
func TestP6_1PutGreat(t *testing.T) {
	e, d, _ := filled(t, 3)
	e.Limit(105)
	great := one("&", strings.Repeat("#", 73))
	checkGet(t, d, string(e.Put(great)), great, api.Fault{})
	if e.Table() != 0 || d.Table() != 0 {
		t.Error(e.Table(), d.Table())
	}
	checkPut(t, e, great, "\x40\x01&\x49"+great[0].Value)
	just := one("&", strings.Repeat("#", 72))
	checkGet(t, d, string(e.Put(just)), just, api.Fault{})
	if e.Table() != 105 || d.Table() != 105 {
		t.Error(e.Table(), d.Table())
	}
	checkPut(t, e, just, "\xbe")
	checkPut(t, hpack.NewEncoder(0), append(one("&", "#"), one("&", "#")...), "\x40\x01&\x01#\x40\x01&\x01#")
}

// A name may be told by the number of a field that has to go for the new one.
func TestP6_1NameGoes(t *testing.T) {
	e, d := hpack.NewEncoder(40), hpack.NewDecoder(40)
	for _, c := range []struct{ value, want string }{{"#", "\x40\x01&\x01#"}, {"*", "\x7e\x01*"}, {"", "\x7e\x00"}, {"########", "\x7e\x08########"}, {"#", "\x40\x01&\x01#"}} {
		checkPut(t, e, one("&", c.value), c.want)
		checkGet(t, d, c.want, one("&", c.value), api.Fault{})
	}
}

// What is told ahead of a block, of an encoder of 4096: whatever it was limited to, the lowest one first, if it isn't the last one.
func TestP6_1Limit(t *testing.T) {
	for _, c := range []struct {
		most   uint32
		limits []uint32
		want   string
	}{
		{4096, nil, ""},
		{100, nil, ""},
		{0, nil, ""},
		{4096, []uint32{4096}, "\x3f\xe1\x1f"},
		{4096, []uint32{4097}, "\x3f\xe1\x1f"},
		{4096, []uint32{math.MaxUint32}, "\x3f\xe1\x1f"},
		{4096, []uint32{1 << 31, 1<<31 - 1}, "\x3f\xe1\x1f"},
		{4096, []uint32{5000, 4096}, "\x3f\xe1\x1f"},
		{4096, []uint32{4095}, "\x3f\xe0\x1f"},
		{4096, []uint32{0}, "\x20"},
		{4096, []uint32{1}, "\x21"},
		{4096, []uint32{30}, "\x3e"},
		{4096, []uint32{31}, "\x3f\x00"},
		{4096, []uint32{32}, "\x3f\x01"},
		{4096, []uint32{158}, "\x3f\x7f"},
		{4096, []uint32{159}, "\x3f\x80\x01"},
		{4096, []uint32{10, 10}, "\x2a"},
		{4096, []uint32{20, 10}, "\x2a"},
		{4096, []uint32{10, 20}, "\x2a\x34"},
		{4096, []uint32{10, 4096}, "\x2a\x3f\xe1\x1f"},
		{4096, []uint32{0, 4096}, "\x20\x3f\xe1\x1f"},
		{4096, []uint32{0, 5, 0}, "\x20"},
		{4096, []uint32{20, 10, 15}, "\x2a\x2f"},
		{4096, []uint32{10, 20, 15}, "\x2a\x2f"},
		{4096, []uint32{10, 15, 20, 12, 11}, "\x2a\x2b"},
		{4096, []uint32{15, 20, 12, 10}, "\x2a"},
		{4096, []uint32{4095, 9999}, "\x3f\xe0\x1f\x3f\xe1\x1f"},
		{10, []uint32{20}, "\x34"},
		{0, []uint32{4096}, "\x3f\xe1\x1f"},
		{10, []uint32{20, 15}, "\x2f"},
		{10, []uint32{15, 20}, "\x2f\x34"},
		{10, []uint32{10}, "\x2a"},
	} {
		for _, first := range [][]api.Field{nil, one(":method", "GET"), secret("&", "#")} {
			e, m := hpack.NewEncoder(c.most), newModel(c.most)
			for _, most := range c.limits {
				e.Limit(most)
				m.limit(most)
			}
			want := m.put(first)
			if !strings.HasPrefix(want, c.want) || first == nil && want != c.want {
				t.Fatalf("the model: %v: %x, wanted %x", c.limits, want, c.want)
			}
			checkPut(t, e, first, want)
			checkPut(t, e, first, m.put(first))
			checkPut(t, e, one(":method", "GET"), "\x82")
			checkNew(t, want, first, api.Fault{})
		}
	}
}

// What it was limited to ahead of a block plays no part for the next one.
func TestP6_1LimitAgain(t *testing.T) {
	e := hpack.NewEncoder(4096)
	for _, c := range []struct {
		limits []uint32
		want   string
	}{{[]uint32{5}, "\x25\x82"}, {nil, "\x82"}, {[]uint32{20}, "\x34\x82"}, {[]uint32{10, 12}, "\x2a\x2c\x82"}, {[]uint32{14}, "\x2e\x82"}, {nil, "\x82"}} {
		for _, most := range c.limits {
			e.Limit(most)
		}
		checkPut(t, e, one(":method", "GET"), c.want)
	}
}

// Fields go at once, also if the most is higher again when it is told.
func TestP6_1LimitTable(t *testing.T) {
	e, d, l := filled(t, 3)
	for _, c := range []struct {
		most uint32
		size int
	}{{4096, 105}, {105, 105}, {104, 70}, {4096, 70}, {70, 70}, {69, 35}, {1000, 35}} {
		e.Limit(c.most)
		if e.Table() != c.size {
			t.Error(c.most, e.Table())
		}
	}
	if d.Table() != 105 {
		t.Error(d.Table())
	}
	checkGet(t, d, string(e.Put(nil)), nil, api.Fault{})
	if d.Table() != 35 {
		t.Error(d.Table())
	}
	checkPut(t, e, l[2:], "\xbe")
	checkGet(t, d, "\xbf", nil, wrong)
}

// No table has a most above MaxTable.
func TestP6_1New(t *testing.T) {
	for _, most := range []uint32{0, 1, 31, 32, 34, 35, 4095, 4096, 4097, 8192, 1 << 31, math.MaxUint32} {
		e, d := hpack.NewEncoder(most), hpack.NewDecoder(most)
		if e == nil || d == nil || e.Table() != 0 || d.Table() != 0 {
			t.Fatal(most)
		}
		l := numbered(234)
		for _, part := range [][]api.Field{l[:117], l[117:]} {
			checkGet(t, d, string(e.Put(part)), part, api.Fault{})
		}
		if want := min(int(most), 4095) / 35 * 35; e.Table() != want || d.Table() != want {
			t.Error(most, e.Table(), d.Table(), want)
		}
		limit := int(min(most, 4096))
		checkGet(t, hpack.NewDecoder(most), writeNumber(0x20, 5, limit), nil, api.Fault{})
		checkGet(t, hpack.NewDecoder(most), writeNumber(0x20, 5, limit+1), nil, wrong)
	}
}

// What a piece's first byte tells.
func TestP6_1GetKinds(t *testing.T) {
	for _, c := range []struct {
		block string
		want  []api.Field
		size  int
	}{
		{"", nil, 0},
		{"\x81", one(":authority", ""), 0},
		{"\xbd", one("www-authenticate", ""), 0},
		{"\x41\x01#", one(":authority", "#"), 43},
		{"\x42\x03GET", one(":method", "GET"), 42},
		{"\x40\x00\x00", one("", ""), 32},
		{"\x40\x01&\x01#", one("&", "#"), 34},
		{"\x00\x01&\x01#", one("&", "#"), 0},
		{"\x00\x00\x00", one("", ""), 0},
		{"\x10\x01&\x01#", secret("&", "#"), 0},
		{"\x02\x03GET", one(":method", "GET"), 0},
		{"\x12\x03GET", secret(":method", "GET"), 0},
		{"\x0f\x2e\x01#", one("www-authenticate", "#"), 0},
		{"\x1f\x2e\x01#", secret("www-authenticate", "#"), 0},
		{"\x40\x01&\x01#\xbe", append(one("&", "#"), one("&", "#")...), 34},
		{"\x40\x01&\x01#\x7e\x01*", append(one("&", "#"), one("&", "*")...), 68},
		{"\x40\x01&\x01#\x0f\x2f\x01*", append(one("&", "#"), one("&", "*")...), 34},
		{"\x40\x01&\x01#\x1f\x2f\x01*", append(one("&", "#"), secret("&", "*")...), 34},
		{"\x40\x81\x1f\x81\x1f", one("a", "a"), 34},
		{"\x40\x80\x80", one("", ""), 32},
		{"\x40\x01\xff\x02\x00\n", one("\xff", "\x00\n"), 35},
		{"\x20\x82", one(":method", "GET"), 0},
		{"\x20\x40\x01&\x01#", one("&", "#"), 0},
		// Numbers with more bytes than they need.
		{"\x7f\xff\x80\x00\x01#", nil, -1},
		{"\xff\x80\x80\x80\x00", nil, -1},
		{"\x0f\x80\x80\x80\x00\x00", one("accept-charset", ""), 0},
		{"\x40\x01&\x7f\x80\x80\x80\x00" + strings.Repeat("#", 127), one("&", strings.Repeat("#", 127)), 160},
		{"\x3f\x80\x80\x80\x00", nil, 0},
	} {
		d := hpack.NewDecoder(4096)
		if c.size < 0 {
			checkGet(t, d, c.block, nil, wrong)
			continue
		}
		checkGet(t, d, c.block, c.want, api.Fault{})
		if d.Table() != c.size {
			t.Errorf("%x %d", c.block, d.Table())
		}
	}
}

// The table's most: as often as it is told ahead of a block's fields, at most the cap, each time.
func TestP6_1GetMost(t *testing.T) {
	for _, c := range []struct {
		cap   uint32
		block string
		fault api.Fault
	}{
		{4096, "\x3f\xe1\x1f", api.Fault{}},
		{4096, "\x3f\xe2\x1f", wrong},
		{4096, "\x3f\xff\xff\xff\x7f", wrong},
		{4096, "\x3f\xe1\xff\xff\x7f", wrong},
		{4096, "\x20", api.Fault{}},
		{4096, "\x20\x3f\xe1\x1f", api.Fault{}},
		{4096, "\x3f\xe1\x1f\x20\x3f\xe1\x1f\x21\x22", api.Fault{}},
		{4096, "\x20\x3f\xe2\x1f", wrong},
		{100, "\x3f\x45", api.Fault{}},
		{100, "\x3f\x46", wrong},
		{100, "\x20\x3f\x46", wrong},
		{0, "\x20", api.Fault{}},
		{0, "\x20\x20", api.Fault{}},
		{0, "\x21", wrong},
		{math.MaxUint32, "\x3f\xe1\x1f", api.Fault{}},
		{math.MaxUint32, "\x3f\xe2\x1f", wrong},
		{4096, "\x82\x20", wrong},
		{4096, "\x20\x82\x20", wrong},
		{4096, "\x82\x82\x3f\xe1\x1f", wrong},
		{4096, "\x40\x00\x00\x20", wrong},
		{4096, "\x00\x00\x00\x20", wrong},
		{4096, "\x10\x00\x00\x20", wrong},
		{4096, "\x3f", wrong},
		{4096, "\x3f\xe1", wrong},
		{4096, "\x3f\x80\x80\x80\x80\x00", wrong},
	} {
		checkGet(t, hpack.NewDecoder(c.cap), c.block, nil, c.fault)
	}
}

// The next block may tell another one again, and what goes is gone.
func TestP6_1GetMostAgain(t *testing.T) {
	_, d, l := filled(t, 3)
	checkGet(t, d, "\x3f\x4a\xbf", l[1:2], api.Fault{})
	if d.Table() != 105 {
		t.Error(d.Table())
	}
	checkGet(t, d, "\x3f\x49\xbf", l[1:2], api.Fault{})
	if d.Table() != 70 {
		t.Error(d.Table())
	}
	checkGet(t, d, "\x3f\xe1\x1f\xbe", l[2:], api.Fault{})
	checkGet(t, d, "\x3f\x04\x3f\xe1\x1f\xbe", l[2:], api.Fault{})
	if d.Table() != 35 {
		t.Error(d.Table())
	}
	checkGet(t, d, "\xbf", nil, wrong)
}

// What is wrong with a block: with a field ahead of it and one behind it it is as well.
func TestP6_1GetWrong(t *testing.T) {
	for _, block := range []string{
		// Numbers of no field.
		"\x80", "\xbe", "\xbf", "\xff\x00", "\xff\x80\xff\xff\x7f", "\x7e\x00", "\x7f\x00\x00", "\x0f\x2f\x00", "\x1f\x2f\x00", "\x7f\xff\xff\xff\x7f\x00",
		// Numbers that are too great, or too long.
		"\xff\xff\xff\xff\xff", "\xff\xff\xff\xff\xff\x00", "\xff\x82\xff\xff\x7f", "\xff\x80\x80\x80\x80\x00", "\x7f\x80\x80\x80\x80\x00\x00", "\x0f\x80\x80\x80\x80\x00\x00", "\x1f\x80\x80\x80\x80\x00\x00", "\x40\x7f\x80\x80\x80\x80\x00", "\x41\xff\x80\x80\x80\x80\x00", "\x40\x01a\x7f\xff\xff\xff\xff\x07",
		// Texts that aren't right: noughts at the end, a byte of ones, the end's code.
		"\x41\x81\x00", "\x41\x82\x1f\xff", "\x41\x81\xff", "\x41\x84\xff\xff\xff\xff", "\x41\x85\x1f\xff\xff\xff\xff", "\x40\x81\xff\x00", "\x40\x01a\x81\xff", "\x10\x01a\x81\x1e", "\x00\x81\x00\x00",
	} {
		checkNew(t, block, nil, wrong)
		checkNew(t, "\x82"+block, nil, wrong)
		checkNew(t, block+"\x82", nil, wrong)
		checkNew(t, "\x20"+block, nil, wrong)
	}
}

// No piece is there that isn't whole: each beginning of a block is read up to a piece's end, or not at all.
func TestP6_1GetBeginnings(t *testing.T) {
	pieces := []string{"\x3f\xe1\x02", "\x82", "\x40\x01&\x01#", "\x40\x82\x18\xc7\x83\x18\xc6\x3f", "\x7e\x01*", "\x0f\x2e\x02##", "\x1f\x30\x00", "\x10\x00\x01a", "\x41\x7f\x01" + strings.Repeat("#", 128), "\xbf"}
	block, ends := "", map[int]int{0: 0}
	for i, p := range pieces {
		block += p
		ends[len(block)] = i
	}
	all, fault := newModel(4096).get(block)
	if len(all) != len(pieces)-1 {
		t.Fatal(all, fault)
	}
	for n := range len(block) + 1 {
		if fields, whole := ends[n]; whole {
			checkNew(t, block[:n], all[:fields], api.Fault{})
		} else {
			checkNew(t, block[:n], nil, wrong)
		}
	}
}

// A list's size is at most MaxHeaders; what else is wrong goes ahead of that.
func TestP6_1GetCalm(t *testing.T) {
	text := strings.Repeat("#", 4096)
	value := func(n int) string { return writeNumber(0, 7, n) + text[:n] }
	for _, c := range []struct {
		block string
		fault api.Fault
	}{
		{"\x40\x00" + value(4064), api.Fault{}},
		{"\x40\x00" + value(4065), calm},
		{"\x00\x00" + value(4065), calm},
		{"\x10\x00" + value(4065), calm},
		{"\x00" + value(4064) + "\x00", api.Fault{}},
		{"\x00" + value(4065) + "\x00", calm},
		{"\x82\x00\x00" + value(4022), api.Fault{}},
		{"\x82\x00\x00" + value(4023), calm},
		{"\x00\x00" + value(4022) + "\x82", api.Fault{}},
		{"\x00\x00" + value(4023) + "\x82", calm},
		{strings.Repeat("\x82", 97), api.Fault{}}, // 42 each, 4074 in all
		{strings.Repeat("\x82", 98), calm},
		{strings.Repeat("\x82", 9000), calm},
		{strings.Repeat("\x00\x00\x00", 128), api.Fault{}},
		{strings.Repeat("\x00\x00\x00", 129), calm},
		{"\x40\x00" + value(2000) + "\xbe\x00\x00\x00", api.Fault{}},
		{"\x40\x00" + value(2000) + "\xbe\x00\x00\x01#", calm},
		{"\x40\x00" + value(2000) + "\xbe\xbe", calm},
		// Something else is wrong behind it, or ahead.
		{"\x00\x00" + value(4065) + "\x80", wrong},
		{"\x00\x00" + value(4065) + "\x20", wrong},
		{"\x00\x00" + value(4065) + "\x40", wrong},
		{"\x00\x00" + value(4065) + "\x41\x81\x00", wrong},
		{strings.Repeat("\x82", 98) + "\xbe", wrong},
		{strings.Repeat("\x82", 9000) + "\x20", wrong},
		{"\xbe" + strings.Repeat("\x82", 98), wrong},
		// What comes into the table behind that is in it.
		{strings.Repeat("\x82", 98) + "\x40\x00\x00\xbe", calm},
		{strings.Repeat("\x82", 98) + "\x40\x00\x00\xbf", wrong},
	} {
		var want []api.Field
		if c.fault == (api.Fault{}) {
			want, _ = newModel(4096).get(c.block)
		}
		checkNew(t, c.block, want, c.fault)
	}
}

// All blocks of up to two bytes, and all of three whose first one begins a text or a number, of a new decoder and of one that has fields.
func TestP6_1GetAllShort(t *testing.T) {
	some := "\x40\x01a\x01b\x7e\x01c"
	blocks := []string{""}
	for a := range 256 {
		blocks = append(blocks, string([]byte{byte(a)}))
		for b := range 256 {
			blocks = append(blocks, string([]byte{byte(a), byte(b)}))
		}
	}
	for _, first := range []byte{0x00, 0x0f, 0x10, 0x20, 0x3f, 0x40, 0x7f, 0xff} {
		for rest := range 1 << 16 {
			if first&0x0f == 0 && rest>>15 == 1 && rest>>8 > 0x81 {
				continue // coded texts with more bytes than are there
			}
			blocks = append(blocks, string([]byte{first, byte(rest >> 8), byte(rest)}))
		}
	}
	for _, limit := range []uint32{40, 4096} {
		for _, start := range []string{"", some} {
			for _, b := range blocks {
				d, m := hpack.NewDecoder(limit), newModel(limit)
				d.Get([]byte(start))
				m.get(start)
				want, fault := m.get(b)
				checkGet(t, d, b, want, fault)
				if fault == (api.Fault{}) && d.Table() != sizeOf(m.fields) {
					t.Fatalf("%x %d", b, d.Table())
				}
			}
		}
	}
}

// random makes numbers that look like chance, and are the same each time.
type random uint32

func (r *random) below(n int) int {
	*r = *r*1664525 + 1013904223
	return int(*r>>8) % n
}

func (r *random) field() api.Field {
	names := []string{"", "a", "b", ":path", ":status", "cookie", "x-long-name", "\xff\x00", strings.Repeat("n", 100), "www-authenticate"}
	values := []string{"", "/", "200", "201", "a", "&", strings.Repeat("v", r.below(300)), string([]byte{byte(r.below(256)), byte(r.below(256))})}
	return api.Field{Name: names[r.below(len(names))], Value: values[r.below(len(values))], Never: r.below(6) == 0}
}

func (r *random) list(most int) []api.Field {
	var l []api.Field
	for range r.below(most + 1) {
		l = append(l, r.field())
	}
	return l
}

// Blocks of which some bytes are others, or none: read as the model does, up to the first fault.
func TestP6_1GetChanged(t *testing.T) {
	r := random(11)
	faults := map[api.Fault]int{}
	for range 3000 {
		limit := []uint32{0, 100, 300, 4096}[r.below(4)]
		e, d, m := hpack.NewEncoder(limit), hpack.NewDecoder(limit), newModel(limit)
		for range 4 {
			if r.below(4) == 0 {
				e.Limit(min(limit, uint32(r.below(500))))
			}
			b := e.Put(r.list(6))
			for range r.below(3) {
				if len(b) > 0 {
					b[r.below(len(b))] = byte(r.below(256))
				}
			}
			b = b[:len(b)-min(len(b), max(0, r.below(12)-9))]
			want, fault := m.get(string(b))
			checkGet(t, d, string(b), want, fault)
			faults[fault]++
			if fault != (api.Fault{}) {
				break
			}
			if d.Table() != sizeOf(m.fields) {
				t.Fatal(d.Table())
			}
		}
	}
	if faults[wrong] < 500 || faults[api.Fault{}] < 500 {
		t.Error(faults)
	}
}

// Of a decoder that met a fault: it ends.
func TestP6_1GetBehindFault(t *testing.T) {
	r := random(13)
	for _, first := range []string{"\x80", "\x40", "\x82\x20", "\x3f\xe2\x1f", strings.Repeat("\x82", 98), "\x41\x81\x00"} {
		d := hpack.NewDecoder(4096)
		for range 100 {
			if _, f := d.Get([]byte(first)); f == (api.Fault{}) {
				t.Fatalf("%x", first)
			}
			b := make([]byte, r.below(40))
			for i := range b {
				b[i] = byte(r.below(256))
			}
			d.Get(b)
			d.Table()
		}
	}
}

func TestP6_1Nil(t *testing.T) {
	var e *hpack.Encoder
	var d *hpack.Decoder
	for range 2 {
		e.Limit(0)
		e.Limit(100)
		if len(e.Put(nil)) != 0 || len(e.Put(one(":method", "GET"))) != 0 || e.Table() != 0 || d.Table() != 0 {
			t.Error(e.Table(), d.Table())
		}
		for _, b := range []string{"", "\x82", "\x80", "\x20"} {
			checkGet(t, d, b, nil, api.Fault{Scope: api.ConnFault, Code: api.InternalError})
		}
	}
}

// A nil list is the same as an empty one.
func TestP6_1Empty(t *testing.T) {
	e, d := hpack.NewEncoder(100), hpack.NewDecoder(100)
	if len(e.Put(nil)) != 0 || len(e.Put([]api.Field{})) != 0 {
		t.Error("a block of no fields has bytes")
	}
	for _, b := range [][]byte{nil, {}} {
		if l, f := d.Get(b); len(l) != 0 || f != (api.Fault{}) {
			t.Error(l, f)
		}
	}
}

// What one is told, another one doesn't know.
func TestP6_1Apart(t *testing.T) {
	e, other := hpack.NewEncoder(100), hpack.NewEncoder(100)
	d, another := hpack.NewDecoder(100), hpack.NewDecoder(100)
	b := string(e.Put(one("&", "#")))
	e.Limit(50)
	checkPut(t, other, one("&", "#"), b)
	checkGet(t, d, b, one("&", "#"), api.Fault{})
	checkGet(t, d, "\xbe", one("&", "#"), api.Fault{})
	checkGet(t, another, "\xbe", nil, wrong)
}

// What is handed in isn't changed, and whoever writes into it later changes nothing.
func TestP6_1KeepsNothing(t *testing.T) {
	e, d := hpack.NewEncoder(4096), hpack.NewDecoder(4096)
	texts := []byte("name:value")
	l := one(unsafe.String(&texts[0], 4), unsafe.String(&texts[5], 5))
	b := e.Put(l)
	if string(texts) != "name:value" || !slices.Equal(l, one("name", "value")) {
		t.Error(l)
	}
	copy(texts, "NAME:VALUE")
	l[0] = field("x", "y")
	checkPut(t, e, one("name", "value"), "\xbe")

	plain := []byte("\x40\x04name\x05value")
	for _, handed := range [][]byte{b, plain} {
		before := string(handed)
		got, _ := d.Get(handed)
		if string(handed) != before {
			t.Errorf("%x", handed)
		}
		clear(handed)
		if !slices.Equal(got, one("name", "value")) {
			t.Error(got)
		}
		checkGet(t, d, "\xbe", one("name", "value"), api.Fault{})
	}
}

// What is answered is new: whoever writes into it changes nothing.
func TestP6_1AnswersNew(t *testing.T) {
	e, d := hpack.NewEncoder(4096), hpack.NewDecoder(4096)
	b := e.Put(one("&", "#"))
	clear(b[:cap(b)])
	l, _ := d.Get([]byte("\x40\x01&\x01#\xbe"))
	l[0], l[1] = field("x", "y"), field("x", "y")
	checkPut(t, e, one("&", "#"), "\xbe")
	checkGet(t, d, "\xbe", one("&", "#"), api.Fault{})
	first, second := e.Put(one("&", "#")), e.Put(one("&", "#"))
	first[0] = 0
	if second[0] != 0xbe {
		t.Errorf("%x", second)
	}
}

// step is a call of an encoder: it is limited, or writes a list.
type step struct {
	limits bool
	most   uint32
	list   []api.Field
}

// pair are an encoder and a decoder that reads what it writes, and the model of the encoder.
type pair struct {
	e *hpack.Encoder
	d *hpack.Decoder
	m *model
	r *model
}

func newPair(most, limit uint32) pair {
	return pair{hpack.NewEncoder(most), hpack.NewDecoder(limit), newModel(most), newModel(limit)}
}

// do takes a step, and tells whether the decoder has met no fault, as the list wasn't too great.
func (p pair) do(t *testing.T, s step) bool {
	t.Helper()
	if s.limits {
		p.e.Limit(s.most)
		p.m.limit(s.most)
		return true
	}
	b := p.e.Put(s.list)
	if want := p.m.put(s.list); string(b) != want {
		t.Fatalf("Put(%s): %.100x, wanted %.100x", tell(s.list), b, want)
	}
	p.r.get(string(b))
	if sizeOf(s.list) > 4096 {
		checkGet(t, p.d, string(b), nil, calm)
		return false
	}
	checkGet(t, p.d, string(b), s.list, api.Fault{})
	if p.e.Table() != sizeOf(p.m.fields) || p.d.Table() != sizeOf(p.r.fields) {
		t.Fatal(p.e.Table(), p.d.Table())
	}
	return true
}

// All rows of up to five calls, of several mosts, and caps that are at least these.
func TestP6_2Rows(t *testing.T) {
	steps := []step{
		{list: nil},
		{list: one("a", "1")},
		{list: []api.Field{field("a", "2"), field("a", "1"), {Name: "a", Value: "1", Never: true}, field(":path", "/x")}},
		{list: one("a", strings.Repeat("1", 40))},
		{limits: true, most: 0},
		{limits: true, most: 70},
	}
	for _, c := range []struct{ most, limit uint32 }{{70, 70}, {70, 100}, {34, 4096}, {0, 70}, {4096, 4096}} {
		count := 1
		for length := range 6 {
			for row := range count {
				p := newPair(c.most, c.limit)
				for range length {
					p.do(t, steps[row%len(steps)])
					row /= len(steps)
				}
			}
			count *= len(steps)
		}
	}
}

// Long rows: as long as no list is too great, all is read; a list of just MaxHeaders is.
func TestP6_2LongRows(t *testing.T) {
	r := random(17)
	great := 0
	for i := range 400 {
		limit := []uint32{100, 300, 1000, 4096}[i%4]
		p := newPair(uint32(r.below(int(limit)+1)), limit)
		for range 40 {
			s := step{limits: r.below(4) == 0, most: uint32(r.below(int(limit) + 1)), list: r.list(8)}
			if !s.limits && r.below(10) == 0 {
				s.list = append(s.list, field("fill", strings.Repeat("f", max(0, 4096-36-sizeOf(s.list)+r.below(2)))))
			}
			if !p.do(t, s) {
				great++
				break
			}
		}
	}
	if great < 50 || great > 390 {
		t.Error(great)
	}
}

// All bytes may stand in names and values.
func TestP6_2AllBytes(t *testing.T) {
	p := newPair(4096, 4096)
	for a := range 256 {
		for b := range 256 {
			if a%16 != b%16 && a != 0 && b != 255 {
				continue
			}
			s := string([]byte{byte(a), byte(b)})
			p.do(t, step{list: []api.Field{field(s, s), {Name: s, Value: s + s, Never: true}}})
		}
	}
}
