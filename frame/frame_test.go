package frame_test

import (
	"bytes"
	"encoding/binary"
	"math"
	"math/rand"
	"slices"
	"strings"
	"testing"

	"louver/api"
	"louver/frame"
)

// The faults that frames have, and none.
var (
	sizeFault      = api.Fault{Scope: api.ConnFault, Code: api.FrameSizeError}
	protocolFault  = api.Fault{Scope: api.ConnFault, Code: api.ProtocolError}
	streamSize     = api.Fault{Scope: api.StreamFault, Code: api.FrameSizeError}
	streamProtocol = api.Fault{Scope: api.StreamFault, Code: api.ProtocolError}
	none           = api.Fault{}
)

// Types, those that are known and some that aren't; and what they have in common.
var (
	kinds         = []uint8{0, 1, 2, 3, 4, 5, 6, 7, 8, 9, 10, 11, 77, 128, 255}
	connKinds     = []uint8{api.SettingsFrame, api.PingFrame, api.GoAwayFrame}
	streamKinds   = []uint8{api.DataFrame, api.HeadersFrame, api.PriorityFrame, api.ResetFrame, api.PushFrame, api.MoreFrame}
	paddedKinds   = []uint8{api.DataFrame, api.HeadersFrame, api.PushFrame}
	kindsWithData = []uint8{api.DataFrame, api.HeadersFrame, api.PushFrame, api.GoAwayFrame, api.MoreFrame, 10, 255}
)

// oftenFlags are flags with each choice of those that payloads hang on, and others.
var oftenFlags = []uint8{0, 1, 4, 5, 8, 9, 0x20, 0x21, 0x28, 0x2c, 0xd7, 0xf7, 0xdf, 0xff}

var (
	eight        = []byte("12345678")
	someSettings = []api.Setting{{ID: 1, Value: 4096}, {ID: 0xfffe, Value: math.MaxUint32}}
)

// lengthsOfFields are how many bytes the fields of a layout have; of those that have any number, 0.
var lengthsOfFields = map[rune]int{'d': 4, 'w': 1, 'c': 4, 'o': 4, 'i': 4, '*': 0, '8': 0, 's': 0}

// layout is a payload without padding, a letter a field: d what a stream depends on, w its weight, c a code, o another stream, i a window's growth, s settings, 8 data of eight bytes, * any data.
func layout(kind, flags uint8) string {
	switch kind {
	case 1:
		if flags&0x20 != 0 {
			return "dw*"
		}
	case 2:
		return "dw"
	case 3:
		return "c"
	case 4:
		return "s"
	case 5:
		return "o*"
	case 6:
		return "8"
	case 7:
		return "oc*"
	case 8:
		return "i"
	}
	return "*"
}

// fixed is how many bytes the fields of a layout have that stand ahead of data and settings.
func fixed(l string) int {
	n := 0
	for _, r := range l {
		n += lengthsOfFields[r]
	}
	return n
}

func pads(kind, flags uint8) bool {
	return flags&8 != 0 && slices.Contains(paddedKinds, kind)
}

// modelMay tells whether a frame may be, field by field.
func modelMay(f api.Frame) bool {
	l := layout(f.Type, f.Flags)
	has := func(letters string, zero bool) bool { return zero || strings.ContainsAny(l, letters) }
	if !has("*8", len(f.Data) == 0) || !has("c", f.Code == 0) || !has("do", f.Other == 0) || !has("w", f.Weight == 0) || !has("d", !f.Alone) || !has("i", f.Window == 0) || !has("s", len(f.Settings) == 0) {
		return false
	}
	if pads(f.Type, f.Flags) != (f.Pad >= 0) || f.Pad < -1 || f.Pad > 255 {
		return false
	}
	if l == "8" && len(f.Data) != 8 {
		return false
	}
	return f.Stream < 1<<31 && f.Other < 1<<31 && f.Window < 1<<31 && len(modelPayload(f)) <= 16384
}

// modelPayload is the payload of a frame whose padding may be.
func modelPayload(f api.Frame) []byte {
	var b []byte
	if f.Pad >= 0 {
		b = append(b, byte(f.Pad))
	}
	for _, r := range layout(f.Type, f.Flags) {
		switch r {
		case 'd':
			n := f.Other
			if f.Alone {
				n += 1 << 31
			}
			b = binary.BigEndian.AppendUint32(b, n)
		case 'w':
			b = append(b, f.Weight)
		case 'c':
			b = binary.BigEndian.AppendUint32(b, f.Code)
		case 'o':
			b = binary.BigEndian.AppendUint32(b, f.Other)
		case 'i':
			b = binary.BigEndian.AppendUint32(b, f.Window)
		case 's':
			for _, s := range f.Settings {
				b = binary.BigEndian.AppendUint16(b, s.ID)
				b = binary.BigEndian.AppendUint32(b, s.Value)
			}
		default:
			b = append(b, f.Data...)
		}
	}
	if f.Pad > 0 {
		b = append(b, bytes.Repeat([]byte{0}, f.Pad)...)
	}
	return b
}

// whole are the bytes of a frame of any type, with any payload.
func whole(kind, flags uint8, stream uint32, payload []byte) []byte {
	b := binary.BigEndian.AppendUint32(nil, uint32(len(payload)))[1:]
	b = append(b, kind, flags)
	b = binary.BigEndian.AppendUint32(b, stream)
	return append(b, payload...)
}

func modelPut(f api.Frame) []byte {
	if !modelMay(f) {
		return nil
	}
	return whole(f.Type, f.Flags, f.Stream, modelPayload(f))
}

// modelGet is the frame of bytes, or what is wrong with it, by the chapter's list.
func modelGet(b []byte) (api.Frame, api.Fault) {
	if len(b) < 9 || len(b)-9 != int(binary.BigEndian.Uint32(b)>>8) {
		return api.Frame{Pad: -1}, sizeFault
	}
	f := api.Frame{Type: b[3], Flags: b[4], Stream: binary.BigEndian.Uint32(b[5:]) % (1 << 31), Pad: -1}
	wrong := modelWrong(f, b[9:])
	if wrong == none {
		modelFill(&f, b[9:])
	}
	return f, wrong
}

func modelWrong(f api.Frame, b []byte) api.Fault {
	if len(b) > 16384 {
		return sizeFault
	}
	if f.Stream == 0 && slices.Contains(streamKinds, f.Type) || f.Stream != 0 && slices.Contains(connKinds, f.Type) {
		return protocolFault
	}
	if pads(f.Type, f.Flags) {
		if len(b) == 0 {
			return sizeFault
		}
		if int(b[0]) > len(b)-1 {
			return protocolFault
		}
		b = b[1 : len(b)-int(b[0])]
	}
	l := layout(f.Type, f.Flags)
	switch {
	case l == "dw" && len(b) != 5:
		return streamSize
	case l == "8" && len(b) != 8, l == "s" && len(b)%6 != 0, l == "s" && f.Flags&1 != 0 && len(b) != 0:
		return sizeFault
	case len(b) < fixed(l), (l == "c" || l == "i") && len(b) != 4:
		return sizeFault
	case l == "i" && binary.BigEndian.Uint32(b)%(1<<31) == 0 && f.Stream == 0:
		return protocolFault
	case l == "i" && binary.BigEndian.Uint32(b)%(1<<31) == 0:
		return streamProtocol
	}
	return none
}

// modelFill takes the fields from a payload that isn't wrong.
func modelFill(f *api.Frame, b []byte) {
	if pads(f.Type, f.Flags) {
		f.Pad = int(b[0])
		b = b[1 : len(b)-f.Pad]
	}
	for _, r := range layout(f.Type, f.Flags) {
		var n uint32
		if lengthsOfFields[r] == 4 {
			n = binary.BigEndian.Uint32(b)
		}
		switch r {
		case 'd':
			f.Alone, f.Other = n >= 1<<31, n%(1<<31)
		case 'w':
			f.Weight = b[0]
		case 'c':
			f.Code = n
		case 'o':
			f.Other = n % (1 << 31)
		case 'i':
			f.Window = n % (1 << 31)
		case 's':
			for ; len(b) > 0; b = b[6:] {
				f.Settings = append(f.Settings, api.Setting{ID: binary.BigEndian.Uint16(b), Value: binary.BigEndian.Uint32(b[2:])})
			}
		default:
			f.Data = b
		}
		b = b[lengthsOfFields[r]:]
	}
}

// same tells whether two frames are one, where no list is one without items.
func same(f, g api.Frame) bool {
	if !bytes.Equal(f.Data, g.Data) || !slices.Equal(f.Settings, g.Settings) {
		return false
	}
	return f.Type == g.Type && f.Flags == g.Flags && f.Stream == g.Stream && f.Pad == g.Pad && f.Code == g.Code && f.Other == g.Other && f.Weight == g.Weight && f.Alone == g.Alone && f.Window == g.Window
}

// rows are frames that may be and aren't wrong, and their bytes.
var rows = []struct {
	f    api.Frame
	want string
}{
	{api.Frame{Stream: 1, Pad: -1}, "\x00\x00\x00\x00\x00\x00\x00\x00\x01"},
	{api.Frame{Flags: 1, Stream: math.MaxInt32, Pad: -1, Data: []byte("abc")}, "\x00\x00\x03\x00\x01\x7f\xff\xff\xffabc"},
	{api.Frame{Flags: 8, Stream: 0x01020304, Pad: 0}, "\x00\x00\x01\x00\x08\x01\x02\x03\x04\x00"},
	{api.Frame{Flags: 8, Stream: 3, Pad: 0, Data: []byte("a")}, "\x00\x00\x02\x00\x08\x00\x00\x00\x03\x00a"},
	{api.Frame{Flags: 9, Stream: 3, Pad: 3, Data: []byte("a")}, "\x00\x00\x05\x00\x09\x00\x00\x00\x03\x03a\x00\x00\x00"},
	{api.Frame{Flags: 8, Stream: 3, Pad: 255}, "\x00\x01\x00\x00\x08\x00\x00\x00\x03\xff" + strings.Repeat("\x00", 255)},
	{api.Frame{Flags: 0x20, Stream: 3, Pad: -1, Data: []byte("abcde")}, "\x00\x00\x05\x00\x20\x00\x00\x00\x03abcde"},
	{api.Frame{Stream: 3, Pad: -1, Data: make([]byte, 0x102)}, "\x00\x01\x02\x00\x00\x00\x00\x00\x03" + strings.Repeat("\x00", 0x102)},

	{api.Frame{Type: 1, Stream: 1, Pad: -1}, "\x00\x00\x00\x01\x00\x00\x00\x00\x01"},
	{api.Frame{Type: 1, Flags: 5, Stream: 1, Pad: -1, Data: []byte("abcde")}, "\x00\x00\x05\x01\x05\x00\x00\x00\x01abcde"},
	{api.Frame{Type: 1, Flags: 0x20, Stream: 1, Pad: -1}, "\x00\x00\x05\x01\x20\x00\x00\x00\x01\x00\x00\x00\x00\x00"},
	{api.Frame{Type: 1, Flags: 0x20, Stream: 1, Pad: -1, Alone: true}, "\x00\x00\x05\x01\x20\x00\x00\x00\x01\x80\x00\x00\x00\x00"},
	{api.Frame{Type: 1, Flags: 0x20, Stream: 1, Pad: -1, Other: math.MaxInt32, Weight: 255, Data: []byte("h")}, "\x00\x00\x06\x01\x20\x00\x00\x00\x01\x7f\xff\xff\xff\xffh"},
	{api.Frame{Type: 1, Flags: 0x28, Stream: 1, Pad: 2, Other: 0x01020304, Alone: true, Weight: 9, Data: []byte("h")}, "\x00\x00\x09\x01\x28\x00\x00\x00\x01\x02\x81\x02\x03\x04\x09h\x00\x00"},
	{api.Frame{Type: 1, Flags: 0x28, Stream: 1, Pad: 0}, "\x00\x00\x06\x01\x28\x00\x00\x00\x01\x00\x00\x00\x00\x00\x00"},
	{api.Frame{Type: 1, Flags: 8, Stream: 1, Pad: 1, Data: []byte("h")}, "\x00\x00\x03\x01\x08\x00\x00\x00\x01\x01h\x00"},

	{api.Frame{Type: 2, Stream: 1, Pad: -1}, "\x00\x00\x05\x02\x00\x00\x00\x00\x01\x00\x00\x00\x00\x00"},
	{api.Frame{Type: 2, Flags: 0xff, Stream: 1, Pad: -1, Other: 3, Weight: 16, Alone: true}, "\x00\x00\x05\x02\xff\x00\x00\x00\x01\x80\x00\x00\x03\x10"},

	{api.Frame{Type: 3, Stream: 1, Pad: -1}, "\x00\x00\x04\x03\x00\x00\x00\x00\x01\x00\x00\x00\x00"},
	{api.Frame{Type: 3, Flags: 8, Stream: 1, Pad: -1, Code: math.MaxUint32}, "\x00\x00\x04\x03\x08\x00\x00\x00\x01\xff\xff\xff\xff"},

	{api.Frame{Type: 4, Pad: -1}, "\x00\x00\x00\x04\x00\x00\x00\x00\x00"},
	{api.Frame{Type: 4, Flags: 1, Pad: -1}, "\x00\x00\x00\x04\x01\x00\x00\x00\x00"},
	{api.Frame{Type: 4, Flags: 8, Pad: -1, Settings: []api.Setting{{ID: 0x0102, Value: 0x03040506}, {}, {ID: math.MaxUint16, Value: math.MaxUint32}}}, "\x00\x00\x12\x04\x08\x00\x00\x00\x00\x01\x02\x03\x04\x05\x06\x00\x00\x00\x00\x00\x00\xff\xff\xff\xff\xff\xff"},

	{api.Frame{Type: 5, Stream: 1, Pad: -1}, "\x00\x00\x04\x05\x00\x00\x00\x00\x01\x00\x00\x00\x00"},
	{api.Frame{Type: 5, Flags: 0x24, Stream: 1, Pad: -1, Other: math.MaxInt32, Data: []byte("h")}, "\x00\x00\x05\x05\x24\x00\x00\x00\x01\x7f\xff\xff\xffh"},
	{api.Frame{Type: 5, Flags: 8, Stream: 1, Pad: 1, Other: 2, Data: []byte("h")}, "\x00\x00\x07\x05\x08\x00\x00\x00\x01\x01\x00\x00\x00\x02h\x00"},

	{api.Frame{Type: 6, Pad: -1, Data: eight}, "\x00\x00\x08\x06\x00\x00\x00\x00\x0012345678"},
	{api.Frame{Type: 6, Flags: 9, Pad: -1, Data: eight}, "\x00\x00\x08\x06\x09\x00\x00\x00\x0012345678"},

	{api.Frame{Type: 7, Pad: -1}, "\x00\x00\x08\x07\x00\x00\x00\x00\x00\x00\x00\x00\x00\x00\x00\x00\x00"},
	{api.Frame{Type: 7, Flags: 8, Pad: -1, Other: math.MaxInt32, Code: math.MaxUint32, Data: []byte("why")}, "\x00\x00\x0b\x07\x08\x00\x00\x00\x00\x7f\xff\xff\xff\xff\xff\xff\xffwhy"},

	{api.Frame{Type: 8, Pad: -1, Window: 1}, "\x00\x00\x04\x08\x00\x00\x00\x00\x00\x00\x00\x00\x01"},
	{api.Frame{Type: 8, Flags: 8, Stream: 5, Pad: -1, Window: math.MaxInt32}, "\x00\x00\x04\x08\x08\x00\x00\x00\x05\x7f\xff\xff\xff"},

	{api.Frame{Type: 9, Stream: 1, Pad: -1}, "\x00\x00\x00\x09\x00\x00\x00\x00\x01"},
	{api.Frame{Type: 9, Flags: 0x2c, Stream: 1, Pad: -1, Data: []byte("more")}, "\x00\x00\x04\x09\x2c\x00\x00\x00\x01more"},

	{api.Frame{Type: 10, Pad: -1}, "\x00\x00\x00\x0a\x00\x00\x00\x00\x00"},
	{api.Frame{Type: 255, Flags: 255, Stream: 1, Pad: -1, Data: []byte("?")}, "\x00\x00\x01\xff\xff\x00\x00\x00\x01?"},
}

func TestP7_1Rows(t *testing.T) {
	for i, x := range rows {
		if !frame.May(x.f) {
			t.Error(i, "may not be")
		}
		if b := frame.Put(x.f); string(b) != x.want {
			t.Errorf("%d %x", i, b)
		}
		if f, wrong := frame.Get([]byte(x.want)); !same(f, x.f) || wrong != none {
			t.Error(i, f, wrong)
		}
		if n, ok := frame.Head([]byte(x.want)); n != len(x.want) || !ok {
			t.Error(i, n, ok)
		}
	}
}

func TestP7_1Example(t *testing.T) {
	want := "\x00\x00\x08\x06\x00\x00\x00\x00\x00" + strings.Repeat("\x00", 8)
	if b := frame.Put(api.Frame{Type: api.PingFrame, Pad: -1, Data: make([]byte, 8)}); string(b) != want {
		t.Errorf("%x", b)
	}
}

func TestP7_1Head(t *testing.T) {
	for n := range 9 {
		if n, ok := frame.Head(make([]byte, n)); n != 0 || ok {
			t.Error(n, ok)
		}
	}
	for _, x := range []struct {
		b    string
		want int
	}{
		{"\x00\x00\x00", 9},
		{"\x00\x00\x01", 10},
		{"\x00\x00\xff", 9 + 255},
		{"\x00\x01\x00", 9 + 256},
		{"\x00\x40\x00", 9 + 16384},
		{"\x00\x40\x01", 9 + 16385},
		{"\x01\x00\x00", 9 + 65536},
		{"\x01\x02\x03", 9 + 0x010203},
		{"\xff\xff\xff", 9 + 1<<24 - 1},
	} {
		for _, rest := range []string{"\x00\x00\x00\x00\x00\x00", "\xff\xff\xff\xff\xff\xff", "abcdefghijklmn"} {
			if n, ok := frame.Head([]byte(x.b + rest)); n != x.want || !ok {
				t.Errorf("%x %d %v", x.b+rest, n, ok)
			}
		}
	}
}

// filled is a frame with just the fields whose bits are set, at values that most types let.
func filled(kind, flags uint8, pad int, bits int) api.Frame {
	f := api.Frame{Type: kind, Flags: flags, Stream: 7, Pad: pad}
	for i, fill := range []func(){
		func() { f.Data = eight },
		func() { f.Code = 1 },
		func() { f.Other = 3 },
		func() { f.Weight = 1 },
		func() { f.Alone = true },
		func() { f.Window = 1 },
		func() { f.Settings = someSettings },
	} {
		if bits&(1<<i) != 0 {
			fill()
		}
	}
	return f
}

func checkMay(t *testing.T, f api.Frame) {
	t.Helper()
	want := modelMay(f)
	if got := frame.May(f); got != want {
		t.Error(f.Type, f.Flags, f.Stream, f.Pad, len(f.Data), f.Code, f.Other, f.Weight, f.Alone, f.Window, len(f.Settings), "may", got)
	}
	if b := frame.Put(f); !bytes.Equal(b, modelPut(f)) {
		t.Error(f.Type, f.Flags, f.Stream, f.Pad, len(f.Data), "put", len(b))
	}
}

// Each type, with each choice of fields, with each padding.
func TestP7_1MayFields(t *testing.T) {
	for _, kind := range kinds {
		for _, flags := range oftenFlags {
			for _, pad := range []int{-1, 0, 1, 255} {
				for bits := range 1 << 7 {
					checkMay(t, filled(kind, flags, pad, bits))
				}
			}
		}
	}
}

func TestP7_1MayPad(t *testing.T) {
	for _, kind := range kinds {
		for _, flags := range oftenFlags {
			for _, pad := range []int{math.MinInt, math.MinInt32, -257, -256, -255, -2, -1, 0, 1, 254, 255, 256, 257, 511, 16383, 16384, math.MaxInt32, math.MaxInt} {
				for _, bits := range []int{0, 1} {
					checkMay(t, filled(kind, flags, pad, bits))
				}
			}
		}
	}
}

func TestP7_1MayNumbers(t *testing.T) {
	for _, n := range []uint32{0, 1, math.MaxInt32 - 1, math.MaxInt32, 1 << 31, 1<<31 + 1, math.MaxUint32} {
		for _, kind := range kinds {
			for _, flags := range oftenFlags {
				for _, change := range []func(*api.Frame){
					func(f *api.Frame) { f.Stream = n },
					func(f *api.Frame) { f.Other = n },
					func(f *api.Frame) { f.Window = n },
					func(f *api.Frame) { f.Code = n },
					func(f *api.Frame) { f.Weight = uint8(n) },
				} {
					pad := -1
					if pads(kind, flags) {
						pad = 2
					}
					f := filled(kind, flags, pad, 0)
					if kind == api.PingFrame {
						f.Data = eight
					}
					change(&f)
					checkMay(t, f)
				}
			}
		}
	}
}

// A payload that is just as great as may be, and one byte more.
func TestP7_1MayGreatest(t *testing.T) {
	for _, kind := range kindsWithData {
		for _, flags := range oftenFlags {
			for _, pad := range []int{-1, 0, 1, 255} {
				if pads(kind, flags) != (pad >= 0) {
					continue
				}
				room := 16384 - fixed(layout(kind, flags)) - (pad + 1)
				f := api.Frame{Type: kind, Flags: flags, Stream: 1, Pad: pad}
				for n, want := range map[int]bool{room - 1: true, room: true, room + 1: false, room + 5: false, 1 << 20: false} {
					f.Data = make([]byte, n)
					checkMay(t, f)
					if frame.May(f) != want || (len(frame.Put(f)) > 0) != want {
						t.Error(kind, flags, pad, n)
					}
				}
			}
		}
	}
	f := api.Frame{Type: api.SettingsFrame, Pad: -1}
	for n, want := range map[int]bool{2729: true, 2730: true, 2731: false, 1 << 16: false} {
		f.Settings = make([]api.Setting, n)
		if frame.May(f) != want || (len(frame.Put(f)) > 0) != want {
			t.Error("settings", n)
		}
	}
}

func TestP7_1MayPing(t *testing.T) {
	for n := range 20 {
		f := api.Frame{Type: api.PingFrame, Pad: -1, Data: make([]byte, n)}
		if got := frame.May(f); got != (n == 8) {
			t.Error(n, got)
		}
		checkMay(t, f)
	}
}

// Frames that are wrong may be all the same: what is put then is got as wrong.
func TestP7_1WrongMayBe(t *testing.T) {
	for i, x := range []struct {
		f    api.Frame
		want api.Fault
	}{
		{api.Frame{Pad: -1}, protocolFault},
		{api.Frame{Type: 1, Pad: -1}, protocolFault},
		{api.Frame{Type: 2, Pad: -1}, protocolFault},
		{api.Frame{Type: 3, Pad: -1}, protocolFault},
		{api.Frame{Type: 4, Stream: 1, Pad: -1}, protocolFault},
		{api.Frame{Type: 4, Flags: 1, Pad: -1, Settings: someSettings}, sizeFault},
		{api.Frame{Type: 5, Pad: -1}, protocolFault},
		{api.Frame{Type: 6, Stream: 1, Pad: -1, Data: eight}, protocolFault},
		{api.Frame{Type: 7, Stream: 1, Pad: -1}, protocolFault},
		{api.Frame{Type: 8, Pad: -1}, protocolFault},
		{api.Frame{Type: 8, Stream: 1, Pad: -1}, streamProtocol},
		{api.Frame{Type: 9, Pad: -1}, protocolFault},
	} {
		if !frame.May(x.f) {
			t.Error(i, "may not be")
		}
		head := api.Frame{Type: x.f.Type, Flags: x.f.Flags, Stream: x.f.Stream, Pad: -1}
		if f, wrong := frame.Get(frame.Put(x.f)); wrong != x.want || !same(f, head) {
			t.Error(i, f, wrong)
		}
	}
}

func checkGet(t *testing.T, b []byte) {
	t.Helper()
	want, wantWrong := modelGet(b)
	f, wrong := frame.Get(b)
	if !same(f, want) || wrong != wantWrong {
		t.Errorf("%x: %v %v, not %v %v", b[:min(len(b), 40)], f, wrong, want, wantWrong)
	}
}

// Of each fault: bytes that have it, and, where one is behind it, have that one too.
func TestP7_1Wrong(t *testing.T) {
	great := make([]byte, 16385)
	for i, x := range []struct {
		kind, flags uint8
		stream      uint32
		payload     string
		want        api.Fault
	}{
		{0, 0, 1, string(great), sizeFault},
		{0, 0, 0, string(great), sizeFault},
		{2, 0, 1, string(great), sizeFault}, // not of the stream: it is too great ahead of being of another length
		{4, 0, 1, string(great), sizeFault},
		{8, 0, 1, string(great), sizeFault},
		{9, 0, 1, string(great), sizeFault},
		{255, 0, 1, string(great), sizeFault},
		{0, 8, 1, "\xff" + string(great[1:]), sizeFault},

		{0, 0, 0, "a", protocolFault},
		{0, 8, 0, "", protocolFault},
		{1, 0, 0, "a", protocolFault},
		{1, 0x28, 0, "", protocolFault},
		{2, 0, 0, "12345", protocolFault},
		{2, 0, 0, "1234", protocolFault},
		{3, 0, 0, "1234", protocolFault},
		{3, 0, 0, "", protocolFault},
		{5, 0, 0, "1234", protocolFault},
		{5, 8, 0, "", protocolFault},
		{9, 0, 0, "a", protocolFault},
		{0, 0, 1 << 31, "a", protocolFault},
		{4, 0, 1, "", protocolFault},
		{4, 0, 1, "a", protocolFault},
		{4, 0, math.MaxUint32, "", protocolFault},
		{6, 0, 1, "12345678", protocolFault},
		{6, 0, 1, "", protocolFault},
		{7, 0, 1, "12345678", protocolFault},
		{7, 0, 1, "", protocolFault},

		{0, 8, 1, "", sizeFault},
		{1, 8, 1, "", sizeFault},
		{1, 0x28, 1, "", sizeFault},
		{5, 8, 1, "", sizeFault},
		{0, 8, 1, "\x01", protocolFault},
		{0, 8, 1, "\x03ab", protocolFault},
		{0, 8, 1, "\xff" + string(great[:254]), protocolFault},
		{1, 8, 1, "\x03ab", protocolFault},
		{5, 8, 1, "\x07abcdef", protocolFault},
		{1, 0x28, 1, "\x06abcde", protocolFault},
		{1, 0x28, 1, "\x05abcd", protocolFault}, // too long, and what is left is too short
		{5, 8, 1, "\x04abc", protocolFault},
		{1, 0x20, 1, "", sizeFault},
		{1, 0x20, 1, "1234", sizeFault},
		{1, 0x28, 1, "\x001234", sizeFault},
		{1, 0x28, 1, "\x0112345", sizeFault},
		{1, 0x28, 1, "\x0512345", sizeFault}, // just as long as there is room for
		{5, 0, 1, "", sizeFault},
		{5, 0, 1, "123", sizeFault},
		{5, 8, 1, "\x00123", sizeFault},
		{5, 8, 1, "\x011234", sizeFault},
		{2, 0, 1, "", streamSize},
		{2, 0, 1, "1234", streamSize},
		{2, 0, 1, "123456", streamSize},
		{2, 0, 1, string(great[1:]), streamSize},
		{3, 0, 1, "", sizeFault},
		{3, 0, 1, "123", sizeFault},
		{3, 0, 1, "12345", sizeFault},
		{8, 0, 0, "", sizeFault},
		{8, 0, 1, "", sizeFault},
		{8, 0, 1, "\x00\x00\x00", sizeFault},
		{8, 0, 0, "\x00\x00\x00\x00\x00", sizeFault},
		{6, 0, 0, "", sizeFault},
		{6, 0, 0, "1234567", sizeFault},
		{6, 1, 0, "123456789", sizeFault},
		{7, 0, 0, "", sizeFault},
		{7, 0, 0, "1234567", sizeFault},
		{4, 0, 0, "12345", sizeFault},
		{4, 0, 0, "1234567", sizeFault},
		{4, 0, 0, string(great[1:]), sizeFault},
		{4, 1, 0, "1", sizeFault},
		{4, 1, 0, "123456", sizeFault},
		{4, 0xff, 0, "123456", sizeFault},

		{8, 0, 0, "\x00\x00\x00\x00", protocolFault},
		{8, 0, 1 << 31, "\x00\x00\x00\x00", protocolFault},
		{8, 0, 0, "\x80\x00\x00\x00", protocolFault},
		{8, 0, 1, "\x00\x00\x00\x00", streamProtocol},
		{8, 0xff, math.MaxUint32, "\x80\x00\x00\x00", streamProtocol},
	} {
		head := api.Frame{Type: x.kind, Flags: x.flags, Stream: x.stream & math.MaxInt32, Pad: -1}
		b := whole(x.kind, x.flags, x.stream, []byte(x.payload))
		if f, wrong := frame.Get(b); wrong != x.want || !same(f, head) || f.Data != nil || f.Settings != nil {
			t.Error(i, x.kind, x.flags, f, wrong)
		}
		checkGet(t, b)
	}
}

// What is read, though it isn't written so: highest bits that don't count, and padding of any bytes.
func TestP7_1Reads(t *testing.T) {
	for i, x := range []struct {
		b    string
		want api.Frame
	}{
		{"\x00\x00\x01\x00\x00\x80\x00\x00\x01a", api.Frame{Stream: 1, Pad: -1, Data: []byte("a")}},
		{"\x00\x00\x04\x00\x08\xff\xff\xff\xff\x02axy", api.Frame{Flags: 8, Stream: math.MaxInt32, Pad: 2, Data: []byte("a")}},
		{"\x00\x00\x03\x00\x08\x00\x00\x00\x01\x02xy", api.Frame{Flags: 8, Stream: 1, Pad: 2}},
		{"\x00\x00\x04\x05\x00\x00\x00\x00\x01\xff\xff\xff\xff", api.Frame{Type: 5, Stream: 1, Pad: -1, Other: math.MaxInt32}},
		{"\x00\x00\x08\x07\x00\x80\x00\x00\x00\x80\x00\x00\x02\xff\x00\x00\x01", api.Frame{Type: 7, Pad: -1, Other: 2, Code: 0xff000001}},
		{"\x00\x00\x04\x08\x00\x80\x00\x00\x00\xff\xff\xff\xff", api.Frame{Type: 8, Pad: -1, Window: math.MaxInt32}},
		{"\x00\x00\x04\x08\x00\x80\x00\x00\x01\x80\x00\x00\x01", api.Frame{Type: 8, Stream: 1, Pad: -1, Window: 1}},
		{"\x00\x00\x05\x02\x00\x80\x00\x00\x01\xff\xff\xff\xff\x01", api.Frame{Type: 2, Stream: 1, Pad: -1, Alone: true, Other: math.MaxInt32, Weight: 1}},
		{"\x00\x00\x09\x01\x28\x00\x00\x00\x01\x03\x00\x00\x00\x02\x01xyz", api.Frame{Type: 1, Flags: 0x28, Stream: 1, Pad: 3, Other: 2, Weight: 1}},
		{"\x00\x00\x06\x05\x08\x00\x00\x00\x01\x01\x00\x00\x00\x02x", api.Frame{Type: 5, Flags: 8, Stream: 1, Pad: 1, Other: 2}},
		{"\x00\x00\x04\x03\x00\x80\x00\x00\x01\x80\x00\x00\x00", api.Frame{Type: 3, Stream: 1, Pad: -1, Code: 1 << 31}},
	} {
		if f, wrong := frame.Get([]byte(x.b)); wrong != none || !same(f, x.want) {
			t.Error(i, f, wrong)
		}
		checkGet(t, []byte(x.b))
	}
}

// Bytes that are no whole frame: too few, or too many.
func TestP7_1NotWhole(t *testing.T) {
	check := func(b []byte) {
		t.Helper()
		if f, wrong := frame.Get(b); wrong != sizeFault || !same(f, api.Frame{Pad: -1}) {
			t.Errorf("%x: %v %v", b, f, wrong)
		}
	}
	check(nil)
	for _, x := range rows {
		for n := range len(x.want) {
			check([]byte(x.want[:n]))
		}
		check([]byte(x.want + "\x00"))
		check([]byte(x.want + x.want))
	}
	check([]byte("\x00\x00\x01\x02\xff\x00\x00\x00\x00"))
	check([]byte("\x00\x40\x01\x02\xff\x00\x00\x00\x07"))
	check([]byte("\xff\xff\xff\x02\xff\x00\x00\x00\x07abc"))
	check(whole(8, 0, 1, make([]byte, 4))[:12])
}

// A payload that is just as great as may be is read.
func TestP7_1GetGreatest(t *testing.T) {
	for _, kind := range kinds {
		for _, flags := range oftenFlags {
			for _, stream := range []uint32{0, 1} {
				for _, n := range []int{16380, 16383, 16384, 16385, 16386, 65536} {
					checkGet(t, whole(kind, flags, stream, bytes.Repeat([]byte{200, 0}, n)[:n]))
				}
			}
		}
	}
	for _, kind := range kindsWithData {
		stream := uint32(1)
		if kind == api.GoAwayFrame {
			stream = 0
		}
		b := whole(kind, 0, stream, make([]byte, 16384))
		f, wrong := frame.Get(b)
		if wrong != none || len(f.Data) != 16384-fixed(layout(kind, 0)) || !bytes.Equal(frame.Put(f), b) {
			t.Error(kind, wrong)
		}
	}
}

// Each type, flag, stream, and short payload, against the model.
func TestP7_1Get(t *testing.T) {
	r := rand.New(rand.NewSource(7))
	for _, kind := range kinds {
		for flags := range 256 {
			for _, stream := range []uint32{0, 1, 2, math.MaxInt32, 1 << 31, 1<<31 + 1} {
				for n := range 20 {
					b := whole(kind, uint8(flags), stream, make([]byte, n))
					checkGet(t, b)
					if n == 0 {
						continue
					}
					r.Read(b[9:])
					b[9] = byte(r.Intn(n + 2))
					checkGet(t, b)
				}
			}
		}
	}
}

// Each padding of each length of payload.
func TestP7_1GetPadding(t *testing.T) {
	for _, kind := range append([]uint8{api.MoreFrame, api.PriorityFrame, 77}, paddedKinds...) {
		for _, flags := range []uint8{8, 0x28} {
			for n := 1; n < 300; n++ {
				b := whole(kind, flags, 1, bytes.Repeat([]byte{'x'}, n))
				for _, pad := range []int{0, 1, n - 7, n - 6, n - 5, n - 4, n - 2, n - 1, n, n + 1, 254, 255} {
					b[9] = byte(pad)
					checkGet(t, b)
				}
			}
		}
	}
}

// Any bytes at all.
func TestP7_1AnyBytes(t *testing.T) {
	r := rand.New(rand.NewSource(1))
	for range 200000 {
		b := make([]byte, r.Intn(40))
		r.Read(b)
		if len(b) >= 9 {
			b[0], b[1], b[2], b[3] = 0, 0, byte(len(b)-9+r.Intn(20)/19), byte(r.Intn(12))
			b[5], b[6], b[7] = b[5]&0x80, 0, 0
			b[8] &= 1
		}
		checkGet(t, b)
		n, ok := frame.Head(b)
		if ok != (len(b) >= 9) || ok && n != 9+int(b[2]) || !ok && n != 0 {
			t.Errorf("%x %d %v", b, n, ok)
		}
	}
}

// What is handed in isn't changed, and what is answered isn't it.
func TestP7_1Memory(t *testing.T) {
	for i, x := range rows {
		data, settings := bytes.Clone(x.f.Data), slices.Clone(x.f.Settings)
		b := frame.Put(x.f)
		if !bytes.Equal(data, x.f.Data) || !slices.Equal(settings, x.f.Settings) {
			t.Error(i, "the frame is changed")
		}
		before := bytes.Clone(b)
		f, _ := frame.Get(b)
		if !bytes.Equal(b, before) {
			t.Error(i, "the bytes are changed")
		}
		for j := range b {
			b[j] ^= 0xff
		}
		if !same(f, x.f) {
			t.Error(i, "the frame is the bytes")
		}
		if !bytes.Equal(data, x.f.Data) {
			t.Error(i, "the bytes are the frame")
		}
		for j := range f.Data {
			f.Data[j] ^= 0xff
		}
		_ = append(f.Data, "some bytes more than there were"...)
		if g, _ := frame.Get(before); !same(g, x.f) {
			t.Error(i, "the frame that was got is the next one's")
		}
	}
}

// A longer list behind the one that is handed in isn't written into.
func TestP7_1RoomBehind(t *testing.T) {
	data := []byte("abcdefgh")
	frame.Put(api.Frame{Flags: 8, Stream: 1, Pad: 3, Data: data[:2]})
	frame.Put(api.Frame{Type: 7, Pad: -1, Data: data[:2]})
	b := append(whole(0, 8, 1, []byte("\x01ax")), "rest"...)
	f, _ := frame.Get(b[:12])
	_ = append(f.Data, "more"...)
	if string(data) != "abcdefgh" || string(b[9:]) != "\x01axrest" {
		t.Error(string(data), string(b[9:]))
	}
}

// ordinary are frames of all types, with each of their fields at its edges and between.
func ordinary(yield func(api.Frame)) {
	numbers := []uint32{0, 1, 258, math.MaxInt32}
	for _, kind := range kinds {
		for _, flags := range oftenFlags {
			for _, stream := range numbers {
				for _, pad := range []int{-1, 0, 3, 255} {
					for _, n := range []int{0, 1, 8, 300} {
						for _, m := range numbers {
							f := api.Frame{Type: kind, Flags: flags, Stream: stream, Pad: pad, Data: bytes.Repeat([]byte("data"), n)[:n]}
							yield(f)
							g := f
							g.Other = m
							yield(g)
							g.Weight, g.Alone = uint8(m), m&1 == 0
							yield(g)
							g = f
							g.Code = m<<1 + 1
							yield(g)
							g.Other = m
							yield(g)
							g = f
							g.Window = m
							yield(g)
							g = f
							g.Settings = []api.Setting{{ID: uint16(m), Value: m}, {ID: 8, Value: ^m}}[:1+n%2]
							yield(g)
						}
					}
				}
			}
		}
	}
}

func TestP7_2ThereAndBack(t *testing.T) {
	through, wrongs := map[uint8]int{}, map[api.Fault]int{}
	ordinary(func(f api.Frame) {
		b := frame.Put(f)
		if (len(b) > 0) != frame.May(f) || frame.May(f) != modelMay(f) {
			t.Fatal(f)
		}
		if len(b) == 0 {
			return
		}
		g, wrong := frame.Get(b)
		if want := modelWrong(f, b[9:]); wrong != want {
			t.Fatal(f, wrong, want)
		}
		wrongs[wrong]++
		if wrong != none {
			f = api.Frame{Type: f.Type, Flags: f.Flags, Stream: f.Stream, Pad: -1}
		} else {
			through[f.Type]++
		}
		if !same(f, g) {
			t.Fatal(f, g)
		}
	})
	for _, kind := range kinds {
		if through[kind] == 0 {
			t.Error("none of type", kind)
		}
	}
	if len(wrongs) != 4 {
		t.Error(wrongs)
	}
}

func TestP7_2GreatestThereAndBack(t *testing.T) {
	data := make([]byte, 16384)
	for i := range data {
		data[i] = byte(i * i / 7)
	}
	settings := make([]api.Setting, 2730)
	for i := range settings {
		settings[i] = api.Setting{ID: uint16(i * 13), Value: uint32(i * i * 977)}
	}
	for i, f := range []api.Frame{
		{Stream: 1, Pad: -1, Data: data},
		{Flags: 8, Stream: 1, Pad: 0, Data: data[1:]},
		{Flags: 8, Stream: 1, Pad: 255, Data: data[256:]},
		{Type: 1, Stream: 1, Pad: -1, Data: data},
		{Type: 1, Flags: 0x28, Stream: 1, Pad: 255, Other: 1, Weight: 1, Data: data[261:]},
		{Type: 4, Pad: -1, Settings: settings},
		{Type: 5, Flags: 8, Stream: 1, Pad: 9, Other: 1, Data: data[14:]},
		{Type: 7, Pad: -1, Other: 1, Code: 1, Data: data[8:]},
		{Type: 9, Stream: 1, Pad: -1, Data: data},
		{Type: 99, Pad: -1, Data: data},
	} {
		g, wrong := frame.Get(frame.Put(f))
		if wrong != none || !same(f, g) {
			t.Error(i, wrong)
		}
	}
}

// What is got may be; and what is put of it are the bytes, but for bits and padding that don't count.
func TestP7_2BackAndThere(t *testing.T) {
	r := rand.New(rand.NewSource(2))
	for range 100000 {
		kind, flags := byte(r.Intn(12)), byte(r.Intn(256))
		b := whole(kind, flags, uint32(r.Intn(2)), make([]byte, r.Intn(30)))
		r.Read(b[9:])
		if pads(kind, flags) && len(b) > 9 {
			b[9] %= byte(len(b))
		}
		f, wrong := frame.Get(b)
		if wrong != none {
			continue
		}
		if !frame.May(f) {
			t.Fatalf("%x %v", b, f)
		}
		first := 9
		if f.Pad >= 0 {
			first++
		}
		if strings.ContainsAny(layout(kind, flags)[:1], "oi") {
			b[first] &= 0x7f
		}
		clear(b[len(b)-max(f.Pad, 0):])
		if got := frame.Put(f); !bytes.Equal(got, b) {
			t.Fatalf("%x %x", b, got)
		}
	}
}
