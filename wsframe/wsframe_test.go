package wsframe_test

import (
	"bytes"
	"encoding/binary"
	"math"
	"math/rand"
	"slices"
	"strings"
	"testing"

	"louver/api"
	"louver/wsframe"
)

// The faults that frames have, and none.
var (
	protocol = api.Fault{Scope: api.SocketFault, Code: api.CloseProtocol}
	great    = api.Fault{Scope: api.SocketFault, Code: api.CloseGreat}
	none     = api.Fault{}
)

var (
	opcodes  = []uint8{0, 1, 2, 8, 9, 10}
	controls = []uint8{8, 9, 10}
	keys     = []uint32{0, 1, 0x37fa213d, 0x80000000, 0x01020304, 0xff00ff00, math.MaxInt32, math.MaxUint32}
	masks    = []bool{false, true}
)

// sizes are lengths at which something changes, and some between.
var sizes = []int{0, 1, 2, 3, 4, 5, 7, 8, 100, 124, 125, 126, 127, 128, 255, 256, 257, 4094, 4095, 4096, 4097, 4098, 65534, 65535, 65536, 65537}

// lengths are numbers that may stand behind the form 127.
var lengths = []uint64{0, 1, 125, 126, 127, 255, 256, 4095, 4096, 4097, 65534, 65535, 65536, 65537, 1 << 24, 1<<31 - 1, 1 << 31, 1<<32 - 1, 1 << 32, 1<<32 + 1, 1<<32 + 4096, 1 << 48, 1<<62 + 5, 1<<63 - 1, 1 << 63, 1<<63 + 1, 1<<63 + 4096, 1<<63 + 65536, 1<<64 - 1}

// answer is what a head tells.
type answer struct {
	n     int
	wrong api.Fault
	ok    bool
}

var (
	tooFew   = answer{}
	isWrong  = answer{wrong: protocol, ok: true}
	tooGreat = answer{wrong: great, ok: true}
)

func whole(n int) answer { return answer{n: n, ok: true} }

func head(b []byte, masked bool) answer {
	n, wrong, ok := wsframe.Head(b, masked)
	return answer{n, wrong, ok}
}

// same tells whether two frames are one, where no bytes are none.
func same(p, q api.Piece) bool {
	return p.Fin == q.Fin && p.Op == q.Op && p.Mask == q.Mask && p.Key == q.Key && bytes.Equal(p.Data, q.Data)
}

func isZero(p api.Piece) bool { return same(p, api.Piece{}) && p.Data == nil }

// anyData are bytes of which none is like the one four ahead of it.
func anyData(n int) []byte {
	b := make([]byte, n)
	for i := range b {
		b[i] = byte(i*7 + i/256 + 1)
	}
	return b
}

func bit(set bool) byte {
	if set {
		return 0x80
	}
	return 0
}

func modelTurn(b []byte, key uint32) []byte {
	k := binary.BigEndian.AppendUint32(nil, key)
	var turned []byte
	for i := range b {
		turned = append(turned, b[i]^k[i%4])
	}
	return turned
}

func modelMay(p api.Piece) bool {
	switch {
	case !slices.Contains(opcodes, p.Op), !p.Mask && p.Key != 0, len(p.Data) > 4096:
		return false
	case slices.Contains(controls, p.Op) && (len(p.Data) > 125 || !p.Fin):
		return false
	}
	return true
}

// modelPut are a frame's bytes, be it one that may be or not.
func modelPut(p api.Piece) []byte {
	b := []byte{bit(p.Fin) + p.Op}
	switch n := len(p.Data); {
	case n < 126:
		b = append(b, bit(p.Mask)+byte(n))
	case n < 65536:
		b = binary.BigEndian.AppendUint16(append(b, bit(p.Mask)+126), uint16(n))
	default:
		b = binary.BigEndian.AppendUint64(append(b, bit(p.Mask)+127), uint64(n))
	}
	if p.Mask {
		b = binary.BigEndian.AppendUint32(b, p.Key)
		return append(b, modelTurn(p.Data, p.Key)...)
	}
	return append(b, p.Data...)
}

// modelHead is what a head tells, part by part, as far as parts are there.
func modelHead(b []byte, masked bool) answer {
	if len(b) < 1 {
		return tooFew
	}
	fin, op := b[0] >= 0x80, b[0]%16
	control := slices.Contains(controls, op)
	if b[0]&0b0111_0000 != 0 || !slices.Contains(opcodes, op) || control && !fin {
		return isWrong
	}
	if len(b) < 2 {
		return tooFew
	}
	form := b[1] % 128
	if masked != (b[1] >= 128) || control && form > 125 {
		return isWrong
	}
	n, at, least := uint64(form), 2, uint64(0)
	switch {
	case form == 126 && len(b) < 4, form == 127 && len(b) < 10:
		return tooFew
	case form == 126:
		n, at, least = uint64(binary.BigEndian.Uint16(b[2:])), 4, 126
	case form == 127:
		n, at, least = binary.BigEndian.Uint64(b[2:]), 10, 65536
	}
	switch {
	case n < least, n > math.MaxInt64:
		return isWrong
	case n > 4096:
		return tooGreat
	case masked:
		at += 4
	}
	return whole(at + int(n))
}

// modelGet is the frame of bytes, or what is wrong with it.
func modelGet(b []byte, masked bool) (api.Piece, api.Fault) {
	told := modelHead(b, masked)
	switch {
	case told.wrong != none:
		return api.Piece{}, told.wrong
	case !told.ok, told.n != len(b):
		return api.Piece{}, protocol
	}
	p := api.Piece{Fin: b[0] >= 0x80, Op: b[0] % 16, Mask: masked}
	size := int(b[1] % 128)
	if size == 126 {
		size = int(binary.BigEndian.Uint16(b[2:]))
	}
	p.Data = b[len(b)-size:]
	if masked {
		p.Key = binary.BigEndian.Uint32(b[len(b)-size-4:])
		p.Data = modelTurn(p.Data, p.Key)
	}
	return p, none
}

func checkMay(t *testing.T, p api.Piece) {
	t.Helper()
	want := modelMay(p)
	if got := wsframe.May(p); got != want {
		t.Fatal(p.Fin, p.Op, p.Mask, p.Key, len(p.Data), "may", got)
	}
	b := wsframe.Put(p)
	if want && !bytes.Equal(b, modelPut(p)) || !want && len(b) != 0 {
		t.Fatal(p.Fin, p.Op, p.Mask, p.Key, len(p.Data), "put", len(b))
	}
}

func checkHead(t *testing.T, b []byte, masked bool) {
	t.Helper()
	if got, want := head(b, masked), modelHead(b, masked); got != want {
		t.Fatalf("Head(% x, %v): %v, wanted %v", b[:min(len(b), 20)], masked, got, want)
	}
}

func checkGet(t *testing.T, b []byte, masked bool) {
	t.Helper()
	checkHead(t, b, masked)
	p, wrong := wsframe.Get(b, masked)
	want, wantWrong := modelGet(b, masked)
	if !same(p, want) || wrong != wantWrong || wrong != none && !isZero(p) {
		t.Fatalf("Get(% x, %v): %v %v, wanted %v %v", b[:min(len(b), 20)], masked, p, wrong, want, wantWrong)
	}
}

// rows are frames that may be, and their bytes.
var rows = []struct {
	p    api.Piece
	want string
}{
	{api.Piece{Fin: true, Op: 1, Data: []byte("Hello")}, "\x81\x05Hello"},
	{api.Piece{Fin: true, Op: 1, Mask: true, Key: 0x37fa213d, Data: []byte("Hello")}, "\x81\x85\x37\xfa\x21\x3d\x7f\x9f\x4d\x51\x58"},
	{api.Piece{}, "\x00\x00"},
	{api.Piece{Fin: true}, "\x80\x00"},
	{api.Piece{Op: 1}, "\x01\x00"},
	{api.Piece{Op: 2}, "\x02\x00"},
	{api.Piece{Fin: true, Op: 8}, "\x88\x00"},
	{api.Piece{Fin: true, Op: 9}, "\x89\x00"},
	{api.Piece{Fin: true, Op: 10}, "\x8a\x00"},
	{api.Piece{Mask: true}, "\x00\x80\x00\x00\x00\x00"},
	{api.Piece{Mask: true, Key: math.MaxUint32}, "\x00\x80\xff\xff\xff\xff"},
	{api.Piece{Fin: true, Op: 8, Mask: true, Key: 0x01020304, Data: []byte("\x03\xe8")}, "\x88\x82\x01\x02\x03\x04\x02\xea"},
	{api.Piece{Op: 2, Mask: true, Data: []byte("abcde")}, "\x02\x85\x00\x00\x00\x00abcde"},
	{api.Piece{Op: 2, Mask: true, Key: 0x01000080, Data: []byte("\x00\x00\x00\x00\x00\x00\x00\x00\x00")}, "\x02\x89\x01\x00\x00\x80\x01\x00\x00\x80\x01\x00\x00\x80\x01"},
	{api.Piece{Fin: true, Op: 10, Data: make([]byte, 125)}, "\x8a\x7d" + strings.Repeat("\x00", 125)},
	{api.Piece{Fin: true, Op: 2, Data: make([]byte, 125)}, "\x82\x7d" + strings.Repeat("\x00", 125)},
	{api.Piece{Fin: true, Op: 2, Data: make([]byte, 126)}, "\x82\x7e\x00\x7e" + strings.Repeat("\x00", 126)},
	{api.Piece{Fin: true, Op: 2, Data: make([]byte, 127)}, "\x82\x7e\x00\x7f" + strings.Repeat("\x00", 127)},
	{api.Piece{Fin: true, Op: 2, Data: make([]byte, 256)}, "\x82\x7e\x01\x00" + strings.Repeat("\x00", 256)},
	{api.Piece{Data: make([]byte, 4096)}, "\x00\x7e\x10\x00" + strings.Repeat("\x00", 4096)},
	{api.Piece{Op: 1, Mask: true, Key: 0x41424344, Data: make([]byte, 4096)}, "\x01\xfe\x10\x00ABCD" + strings.Repeat("ABCD", 1024)},
}

func TestP16_1Rows(t *testing.T) {
	for i, x := range rows {
		if !wsframe.May(x.p) {
			t.Error(i, "may not be")
		}
		if b := wsframe.Put(x.p); string(b) != x.want {
			t.Errorf("%d % x", i, b[:min(len(b), 20)])
		}
		if p, wrong := wsframe.Get([]byte(x.want), x.p.Mask); !same(p, x.p) || wrong != none {
			t.Error(i, p, wrong)
		}
		if got := head([]byte(x.want), x.p.Mask); got != whole(len(x.want)) {
			t.Error(i, got)
		}
	}
}

func TestP16_1Example(t *testing.T) {
	want := []byte{129, 5, 'H', 'e', 'l', 'l', 'o'}
	if b := wsframe.Put(api.Piece{Fin: true, Op: api.TextOp, Data: []byte("Hello")}); !bytes.Equal(b, want) {
		t.Errorf("% x", b)
	}
}

// Each opcode there is, with each choice of the others, at all lengths at which something changes.
func TestP16_1May(t *testing.T) {
	for op := range 256 {
		for _, fin := range masks {
			for _, mask := range masks {
				for _, key := range keys {
					for _, n := range sizes {
						if n > 200 && op%16 > 10 {
							continue
						}
						checkMay(t, api.Piece{Fin: fin, Op: uint8(op), Mask: mask, Key: key, Data: anyData(n)})
					}
				}
			}
		}
	}
}

// Each length there may be, and some more.
func TestP16_1MayLengths(t *testing.T) {
	data := anyData(4200)
	for n := range 4200 {
		checkMay(t, api.Piece{Op: 2, Mask: true, Key: 0x9abcdef0, Data: data[:n]})
		checkMay(t, api.Piece{Fin: true, Op: 1, Data: data[:n]})
		checkMay(t, api.Piece{Fin: true, Op: 9, Data: data[:n]})
	}
	for _, n := range []int{1 << 16, 1 << 20} {
		checkMay(t, api.Piece{Data: make([]byte, n)})
	}
}

// Frames that may not be, one for each reason.
func TestP16_1MayNot(t *testing.T) {
	for i, p := range []api.Piece{
		{Op: 3},
		{Fin: true, Op: 7},
		{Fin: true, Op: 11},
		{Fin: true, Op: 15},
		{Fin: true, Op: 16},
		{Fin: true, Op: 0x11},
		{Fin: true, Op: 0x42},
		{Op: 0x81},
		{Op: 0x88},
		{Fin: true, Op: 255},
		{Op: 1, Key: 1},
		{Fin: true, Op: 8, Key: math.MaxUint32},
		{Op: 8},
		{Op: 9},
		{Op: 10, Mask: true},
		{Fin: true, Op: 8, Data: make([]byte, 126)},
		{Fin: true, Op: 9, Mask: true, Data: make([]byte, 127)},
		{Fin: true, Op: 10, Data: make([]byte, 4096)},
		{Data: make([]byte, 4097)},
		{Fin: true, Op: 1, Mask: true, Data: make([]byte, 4097)},
		{Fin: true, Op: 2, Mask: true, Data: make([]byte, 1<<16)},
	} {
		if wsframe.May(p) || len(wsframe.Put(p)) != 0 {
			t.Error(i, "may be")
		}
	}
}

// wrongs are beginnings of frames that aren't to be masked: what they tell as soon as they are there, and not ahead of that.
var wrongs = []struct {
	b     string
	wrong api.Fault
}{
	{"\xc1", protocol},
	{"\xa1", protocol},
	{"\x91", protocol},
	{"\xf1", protocol},
	{"\x41", protocol},
	{"\x10", protocol},
	{"\xc8", protocol},
	{"\x03", protocol},
	{"\x83", protocol},
	{"\x87", protocol},
	{"\x8b", protocol},
	{"\x8f", protocol},
	{"\xff", protocol},
	{"\x08", protocol},
	{"\x09", protocol},
	{"\x0a", protocol},
	{"\x81\x80", protocol},
	{"\x81\xfd", protocol},
	{"\x81\xfe", protocol},
	{"\x81\xff", protocol},
	{"\x88\x80", protocol},
	{"\x88\x7e", protocol},
	{"\x88\x7f", protocol},
	{"\x89\x7e", protocol},
	{"\x89\x7f", protocol},
	{"\x8a\x7e", protocol},
	{"\x8a\x7f", protocol},
	{"\x81\x7e\x00\x00", protocol},
	{"\x81\x7e\x00\x01", protocol},
	{"\x81\x7e\x00\x7d", protocol},
	{"\x81\x7f\x00\x00\x00\x00\x00\x00\x00\x00", protocol},
	{"\x81\x7f\x00\x00\x00\x00\x00\x00\x00\x7d", protocol},
	{"\x81\x7f\x00\x00\x00\x00\x00\x00\x00\x7e", protocol},
	{"\x81\x7f\x00\x00\x00\x00\x00\x00\x10\x00", protocol},
	{"\x81\x7f\x00\x00\x00\x00\x00\x00\x10\x01", protocol}, // it is more than may be, too
	{"\x81\x7f\x00\x00\x00\x00\x00\x00\xff\xff", protocol},
	{"\x81\x7f\x80\x00\x00\x00\x00\x00\x00\x00", protocol},
	{"\x81\x7f\x80\x00\x00\x00\x00\x00\x00\x7e", protocol},
	{"\x81\x7f\x80\x00\x00\x00\x00\x01\x00\x00", protocol},
	{"\x81\x7f\xff\xff\xff\xff\xff\xff\xff\xff", protocol},
	{"\x81\x7e\x10\x01", great},
	{"\x00\x7e\x11\x00", great},
	{"\x02\x7e\xff\xff", great},
	{"\x81\x7f\x00\x00\x00\x00\x00\x01\x00\x00", great},
	{"\x81\x7f\x00\x00\x00\x01\x00\x00\x00\x00", great},
	{"\x81\x7f\x00\x00\x00\x01\x00\x00\x10\x00", great},
	{"\x81\x7f\x7f\xff\xff\xff\xff\xff\xff\xff", great},
}

// isMasked is a beginning of a frame, with the other mask.
func isMasked(b string) []byte {
	c := []byte(b)
	if len(c) > 1 {
		c[1] ^= 0x80
	}
	return c
}

func TestP16_1Wrong(t *testing.T) {
	for _, x := range wrongs {
		for _, masked := range masks {
			b := []byte(x.b)
			if masked {
				b = isMasked(x.b)
			}
			for _, rest := range []string{"", "\x00", "\xff", strings.Repeat("\x00", 16), strings.Repeat("\xff", 5000)} {
				c := append(bytes.Clone(b), rest...)
				if got := head(c, masked); got != (answer{0, x.wrong, true}) {
					t.Errorf("Head(% x, %v): %v", c[:min(len(c), 20)], masked, got)
				}
				if p, wrong := wsframe.Get(c, masked); wrong != x.wrong || !isZero(p) {
					t.Errorf("Get(% x, %v): %v %v", c[:min(len(c), 20)], masked, p, wrong)
				}
			}
			for n := range b {
				if got := head(b[:n], masked); got != tooFew {
					t.Errorf("Head(% x, %v): %v", b[:n], masked, got)
				}
			}
		}
	}
}

// The other mask than frames should have.
func TestP16_1OtherMask(t *testing.T) {
	for i, x := range rows {
		b := []byte(x.want)
		if got := head(b[:1], !x.p.Mask); got != tooFew {
			t.Error(i, got)
		}
		for n := 2; n <= len(b); n++ {
			if got := head(b[:n], !x.p.Mask); got != isWrong {
				t.Error(i, n, got)
			}
		}
		if p, wrong := wsframe.Get(b, !x.p.Mask); wrong != protocol || !isZero(p) {
			t.Error(i, p, wrong)
		}
	}
}

// How many bytes a frame has is told as soon as its length is there, ahead of its key.
func TestP16_1HeadEarly(t *testing.T) {
	for i, x := range rows {
		b := []byte(x.want)
		there := 2
		if len(x.p.Data) > 125 {
			there = 4
		}
		for n := range len(b) + 1 {
			want := tooFew
			if n >= there {
				want = whole(len(b))
			}
			if got := head(b[:n], x.p.Mask); got != want {
				t.Error(i, n, got)
			}
		}
		if got := head(append(b, x.want...), x.p.Mask); got != whole(len(x.want)) {
			t.Error(i, got, "and more behind")
		}
	}
}

// All first and second bytes there are, with what may stand behind them, as far as it is there.
func TestP16_1Heads(t *testing.T) {
	behind := []string{strings.Repeat("\x00", 12), strings.Repeat("\xff", 12), "\x00\x7d\x00\x00", "\x00\x7e\x00\x00", "\x10\x00\x00\x00", "\x10\x01\x00\x00", "\x00\x00\x00\x00\x00\x01\x00\x00\x01"}
	for i := range 1 << 16 {
		for _, masked := range masks {
			first := []byte{byte(i >> 8), byte(i)}
			checkGet(t, first[:1], masked)
			checkGet(t, first, masked)
			for _, rest := range behind {
				checkHead(t, append(first[:2:2], rest...), masked)
			}
		}
	}
	checkGet(t, nil, false)
	checkGet(t, nil, true)
}

// All lengths in two bytes, with each opcode.
func TestP16_1HeadTwo(t *testing.T) {
	for n := range 1 << 16 {
		for _, op := range []byte{0x00, 0x81, 0x02, 0x88} {
			for _, masked := range masks {
				b := []byte{op, bit(masked) + 126, byte(n >> 8), byte(n)}
				checkHead(t, b, masked)
				checkHead(t, b[:3], masked)
			}
		}
	}
}

// Lengths in eight bytes, at the edges and any ones, byte by byte.
func TestP16_1HeadEight(t *testing.T) {
	all := slices.Clone(lengths)
	r := rand.New(rand.NewSource(16))
	for range 5000 {
		all = append(all, r.Uint64()>>r.Intn(64))
	}
	for _, n := range all {
		for _, op := range []byte{0x80, 0x01, 0x82, 0x8a} {
			for _, masked := range masks {
				b := binary.BigEndian.AppendUint64([]byte{op, bit(masked) + 127}, n)
				b = append(b, "1234567"...)
				for k := range b {
					checkGet(t, b[:k], masked)
				}
			}
		}
	}
}

// Lengths that could be shorter, and whose bytes are all there, are wrong all the same.
func TestP16_1Longer(t *testing.T) {
	for _, masked := range masks {
		key := ""
		if masked {
			key = "1234"
		}
		for n := range 126 {
			b := append([]byte{0x82, bit(masked) + 126, 0, byte(n)}, key+strings.Repeat("a", n)...)
			checkGet(t, b, masked)
			if _, wrong := wsframe.Get(b, masked); wrong != protocol {
				t.Error(n, wrong)
			}
		}
		for _, n := range []int{0, 1, 125, 126, 127, 4096, 4097, 65535} {
			b := binary.BigEndian.AppendUint64([]byte{0x82, bit(masked) + 127}, uint64(n))
			b = append(b, key+strings.Repeat("a", n)...)
			checkGet(t, b, masked)
			if _, wrong := wsframe.Get(b, masked); wrong != protocol {
				t.Error(n, wrong)
			}
		}
	}
}

// Whole frames that are just as great as may be, and greater ones.
func TestP16_1Great(t *testing.T) {
	for _, op := range opcodes {
		for _, mask := range masks {
			for _, n := range sizes {
				p := api.Piece{Fin: true, Op: op, Mask: mask, Data: anyData(n)}
				want := none
				switch {
				case op >= 8 && n > 125:
					want = protocol
				case n > 4096:
					want = great
				}
				b := modelPut(p)
				checkGet(t, b, mask)
				got, wrong := wsframe.Get(b, mask)
				if wrong != want || wrong == none && !same(got, p) {
					t.Error(op, mask, n, wrong)
				}
			}
		}
	}
}

// Bytes that are no whole frame, too few or too many, though nothing else is wrong.
func TestP16_1NotWhole(t *testing.T) {
	check := func(b []byte, masked bool) {
		t.Helper()
		if p, wrong := wsframe.Get(b, masked); wrong != protocol || !isZero(p) {
			t.Errorf("% x, %v: %v %v", b[:min(len(b), 20)], masked, p, wrong)
		}
	}
	for _, masked := range masks {
		check(nil, masked)
		check([]byte{}, masked)
	}
	for _, x := range rows {
		for n := range len(x.want) {
			check([]byte(x.want[:n]), x.p.Mask)
		}
		check([]byte(x.want+"\x00"), x.p.Mask)
		check([]byte(x.want+"\x80"), x.p.Mask)
		check([]byte(x.want+x.want), x.p.Mask)
	}
}

// What a head tells goes ahead of bytes that are no whole frame.
func TestP16_1GreatNotWhole(t *testing.T) {
	b := modelPut(api.Piece{Op: 2, Data: make([]byte, 4097)})
	for _, n := range []int{4, 5, 100, len(b) - 1, len(b)} {
		if p, wrong := wsframe.Get(b[:n], false); wrong != great || !isZero(p) {
			t.Error(n, p, wrong)
		}
	}
	if p, wrong := wsframe.Get(append(b, 0), false); wrong != great || !isZero(p) {
		t.Error("too many", p, wrong)
	}
}

// Any bytes, mostly ones that begin as frames do.
func TestP16_1AnyBytes(t *testing.T) {
	r := rand.New(rand.NewSource(161))
	for range 200000 {
		b := make([]byte, r.Intn(30))
		r.Read(b)
		masked := r.Intn(2) == 0
		if len(b) > 1 && r.Intn(8) > 0 {
			b[0] = bit(r.Intn(3) > 0) + opcodes[r.Intn(len(opcodes))]
			b[1] = bit(masked) + byte(r.Intn(30))
			if r.Intn(4) == 0 {
				b[1] = bit(masked) + byte(max(len(b)-2, 4)-4*int(bit(masked)>>7))
			}
		}
		checkGet(t, b, masked)
		checkGet(t, b, !masked)
	}
}

func TestP16_1Turn(t *testing.T) {
	for i, x := range []struct {
		b    string
		key  uint32
		want string
	}{
		{"", 0x01020304, ""},
		{"a", 0, "a"},
		{"abcde", 0, "abcde"},
		{"\x00", 0x01020304, "\x01"},
		{"\x00\x00", 0x01020304, "\x01\x02"},
		{"\x00\x00\x00", 0x01020304, "\x01\x02\x03"},
		{"\x00\x00\x00\x00", 0x01020304, "\x01\x02\x03\x04"},
		{"\x00\x00\x00\x00\x00", 0x01020304, "\x01\x02\x03\x04\x01"},
		{"\x01\x02\x03\x04\x01\x02", 0x01020304, "\x00\x00\x00\x00\x00\x00"},
		{"\x00\xff\x00\xff\x00\xff", math.MaxUint32, "\xff\x00\xff\x00\xff\x00"},
		{"Hello", 0x37fa213d, "\x7f\x9f\x4d\x51\x58"},
		{"\x7f\x9f\x4d\x51\x58", 0x37fa213d, "Hello"},
	} {
		if got := wsframe.Turn([]byte(x.b), x.key); string(got) != x.want {
			t.Errorf("%d % x", i, got)
		}
	}
	if len(wsframe.Turn(nil, 1)) != 0 {
		t.Error("no bytes")
	}
	for _, key := range keys {
		for _, n := range append([]int{6, 9, 10, 1 << 20}, sizes...) {
			b := anyData(n)
			turned := wsframe.Turn(b, key)
			if !bytes.Equal(turned, modelTurn(b, key)) || !bytes.Equal(wsframe.Turn(turned, key), b) {
				t.Error(key, n)
			}
		}
	}
}

// What is handed in isn't changed, and what is answered isn't it.
func TestP16_1Memory(t *testing.T) {
	for i, x := range rows {
		data := bytes.Clone(x.p.Data)
		b := wsframe.Put(x.p)
		before := bytes.Clone(b)
		wsframe.May(x.p)
		wsframe.Head(b, x.p.Mask)
		p, _ := wsframe.Get(b, x.p.Mask)
		if !bytes.Equal(data, x.p.Data) || !bytes.Equal(b, before) {
			t.Error(i, "what was handed in is changed")
		}
		for j := range b {
			b[j] ^= 0xff
		}
		if !same(p, x.p) || !bytes.Equal(data, x.p.Data) {
			t.Error(i, "the bytes are the frame's")
		}
		for j := range p.Data {
			p.Data[j] ^= 0xff
		}
		_ = append(p.Data, "some bytes more than there were"...)
		if q, _ := wsframe.Get(before, x.p.Mask); !same(q, x.p) || string(before) != x.want {
			t.Error(i, "the frame that was got is the next one's")
		}
	}
}

// TestP16_1TurnMemory looks that bytes that no key turns are new memory, too.
func TestP16_1TurnMemory(t *testing.T) {
	for _, key := range keys {
		b := []byte("abcdefgh")
		turned := wsframe.Turn(b[:5], key)
		want := bytes.Clone(turned)
		_ = append(turned, "more"...)
		if string(b) != "abcdefgh" {
			t.Errorf("%x: %q", key, b)
		}
		clear(b)
		if !bytes.Equal(turned, want) {
			t.Errorf("%x: % x", key, turned)
		}
	}
}

// A longer list behind the one that is handed in isn't written into.
func TestP16_1RoomBehind(t *testing.T) {
	data := []byte("abcdefgh")
	wsframe.Put(api.Piece{Op: 1, Mask: true, Key: 0x01020304, Data: data[:2]})
	b := []byte("\x81\x02abcdef")
	p, _ := wsframe.Get(b[:4], false)
	_ = append(p.Data, "more"...)
	if string(data) != "abcdefgh" || string(b) != "\x81\x02abcdef" {
		t.Errorf("%q %q", data, b)
	}
}

// ordinary are all frames that may be of these lengths and keys.
func ordinary(yield func(api.Piece)) {
	for _, op := range opcodes {
		for _, fin := range masks {
			for _, n := range sizes {
				p := api.Piece{Fin: fin, Op: op, Data: anyData(n)}
				if !wsframe.May(p) {
					continue
				}
				yield(p)
				for _, key := range keys {
					p.Mask, p.Key = true, key
					yield(p)
				}
			}
		}
	}
}

func TestP16_2ThereAndBack(t *testing.T) {
	count := map[uint8]int{}
	ordinary(func(p api.Piece) {
		count[p.Op]++
		b := wsframe.Put(p)
		if got := head(b, p.Mask); got != whole(len(b)) {
			t.Fatal(p.Op, len(p.Data), got)
		}
		if q, wrong := wsframe.Get(b, p.Mask); wrong != none || !same(p, q) {
			t.Fatal(p.Op, len(p.Data), p.Mask, p.Key, wrong)
		}
		if q, wrong := wsframe.Get(b, !p.Mask); wrong != protocol || !isZero(q) {
			t.Fatal(p.Op, len(p.Data), p.Mask, p.Key, "with the other mask", wrong)
		}
	})
	for _, op := range opcodes {
		if count[op] == 0 {
			t.Error("none of opcode", op)
		}
	}
}

func TestP16_2EachLength(t *testing.T) {
	data := anyData(4096)
	for n := range 4097 {
		for _, p := range []api.Piece{{Op: 2, Data: data[:n]}, {Fin: true, Op: 1, Mask: true, Key: uint32(n) * 0x9e3779b1, Data: data[4096-n:]}} {
			if q, wrong := wsframe.Get(wsframe.Put(p), p.Mask); wrong != none || !same(p, q) {
				t.Fatal(n, p.Mask, wrong)
			}
		}
	}
}

func TestP16_2Any(t *testing.T) {
	r := rand.New(rand.NewSource(162))
	for range 20000 {
		p := api.Piece{Fin: r.Intn(2) == 0, Op: opcodes[r.Intn(len(opcodes))], Mask: r.Intn(2) == 0, Data: make([]byte, r.Intn(300))}
		if p.Mask {
			p.Key = r.Uint32()
		}
		r.Read(p.Data)
		b := wsframe.Put(p)
		if !modelMay(p) {
			if len(b) != 0 {
				t.Fatal(p, "is put")
			}
			continue
		}
		if q, wrong := wsframe.Get(b, p.Mask); wrong != none || !same(p, q) {
			t.Fatal(p, q, wrong)
		}
	}
}

// What is got may be; and what is put of it are the bytes.
func TestP16_2BackAndThere(t *testing.T) {
	r := rand.New(rand.NewSource(1621))
	through := 0
	for range 100000 {
		masked := r.Intn(2) == 0
		b := make([]byte, 2+r.Intn(200))
		r.Read(b)
		b[0] = bit(r.Intn(3) > 0) + byte(r.Intn(12))
		n := len(b) - 2
		if masked {
			n -= 4
		}
		if n > 125 {
			n -= 2
			b[2], b[3] = 0, byte(n)
			n = 126
		}
		b[1] = bit(masked) + byte(max(n, 0))
		p, wrong := wsframe.Get(b, masked)
		if wrong != none {
			continue
		}
		through++
		if !wsframe.May(p) || p.Mask != masked || !bytes.Equal(wsframe.Put(p), b) {
			t.Fatalf("% x: %v", b, p)
		}
	}
	if through < 10000 {
		t.Error("too few were frames:", through)
	}
}

// Frames behind each other are taken apart by what their heads tell.
func TestP16_2Row(t *testing.T) {
	for _, masked := range masks {
		var all []api.Piece
		var b []byte
		ordinary(func(p api.Piece) {
			if p.Mask == masked {
				all = append(all, p)
				b = append(b, wsframe.Put(p)...)
			}
		})
		for i, p := range all {
			n, _, ok := wsframe.Head(b, masked)
			if !ok || n == 0 || n > len(b) {
				t.Fatal(i, n, ok)
			}
			if q, wrong := wsframe.Get(b[:n], masked); wrong != none || !same(p, q) {
				t.Fatal(i, wrong)
			}
			b = b[n:]
		}
		if len(b) != 0 {
			t.Error(len(b), "bytes are left")
		}
	}
}
