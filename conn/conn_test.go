package conn_test

import (
	"bytes"
	"fmt"
	"math"
	"reflect"
	"slices"
	"strings"
	"testing"

	"louver/api"
	"louver/conn"
	"louver/frame"
	"louver/settings"
	"louver/split"
)

// times is a line as often as there are numbers, with each of them in it, where a sign tells so.
func times(line string, numbers ...int) string {
	var l []string
	for _, n := range numbers {
		l = append(l, strings.ReplaceAll(line, "@", fmt.Sprint(n)))
	}
	return strings.Join(l, "\n")
}

// odd are the odd numbers from one to another.
func odd(from, to int) []int {
	var l []int
	for n := from; n <= to; n += 2 {
		l = append(l, n)
	}
	return l
}

func TestP14_1BeginServer(t *testing.T) {
	for _, size := range []uint32{0, 10, math.MaxUint32} {
		r := newRig(t, true, size)
		if r.c.Peer() != settings.Begin() {
			t.Error(r.c.Peer())
		}
		r.run("Quiet -> false", "Gone -> false", "Live -> 0", "State 0 -> Idle", "State 1 -> Idle", "State 2 -> Idle", "Waits 1 -> 0",
			"< SETTINGS 3=16 6=4096 8=1", "Quiet -> true", "<")
		r.feed(split.Preface())
		r.run("<", "> SETTINGS", "! settings", "< SETTINGS ack")
	}
}

func TestP14_1BeginClient(t *testing.T) {
	for _, x := range []struct{ size, want uint32 }{
		{0, 0}, {1, 1}, {10, 10}, {65535, 65535}, {65536, 65536}, {1<<31 - 1, 1<<31 - 1}, {1 << 31, 1<<31 - 1}, {math.MaxUint32, 1<<31 - 1},
	} {
		r := newRig(t, false, x.size)
		if r.c.Peer() != settings.Begin() {
			t.Error(r.c.Peer())
		}
		r.run("Quiet -> false")
		r.preface()
		r.run("Quiet -> false", fmt.Sprintf("< SETTINGS 2=0 4=%d 6=4096", x.want), "Quiet -> true", "<", "> SETTINGS", "! settings", "< SETTINGS ack")
	}
}

// The bytes are those of the preface, and of a frame as layer 7 has it.
func TestP14_1BeginBytes(t *testing.T) {
	if b := conn.New(true, 0).Out(100); string(b) != "\x00\x00\x12\x04\x00\x00\x00\x00\x00\x00\x03\x00\x00\x00\x10\x00\x06\x00\x00\x10\x00\x00\x08\x00\x00\x00\x01" {
		t.Errorf("%q", b)
	}
	if b := conn.New(false, 258).Out(100); string(b) != "PRI * HTTP/2.0\r\n\r\nSM\r\n\r\n"+
		"\x00\x00\x12\x04\x00\x00\x00\x00\x00\x00\x02\x00\x00\x00\x00\x00\x04\x00\x00\x01\x02\x00\x06\x00\x00\x10\x00" {
		t.Errorf("%q", b)
	}
}

func TestP14_1Preface(t *testing.T) {
	for i := range split.Preface() {
		b := split.Preface()
		b[i] ^= 1
		r := newRig(t, true, 0)
		if l := r.feed(b[:i]); len(l) > 0 {
			t.Error(i, l)
		}
		if l := r.feed(b[i : i+1]); !slices.Equal(l, []string{"fault 1"}) {
			t.Error(i, l)
		}
		r.run("Gone -> true", "Feed abc -> 0", "< SETTINGS 3=16 6=4096 8=1", "< GOAWAY 0 1")
	}
	// A server sends none.
	r := newRig(t, false, 0)
	r.preface()
	if l := r.feed(split.Preface()); !slices.Equal(l, []string{"fault 6"}) {
		t.Error(l)
	}
}

// The first frame is SETTINGS without Ack; its own fault comes ahead of that.
func TestP14_1FirstFrame(t *testing.T) {
	for _, x := range []struct{ frame, want string }{
		{"PING abcdefgh", "fault 1"},
		{"PING abcdefgh ack", "fault 1"},
		{"SETTINGS ack", "fault 1"},
		{"DATA 1 abc", "fault 1"},
		{"HEADERS 1 a=b", "fault 1"},
		{"HEADERS 1 hex:80", "fault 1"},
		{"HEADERS 1 a=b part", "fault 1"},
		{"PRIORITY 1", "fault 1"},
		{"RST 1 0", "fault 1"},
		{"PUSH 1 2", "fault 1"},
		{"GOAWAY 0 0", "fault 1"},
		{"WINDOW 0 1", "fault 1"},
		{"MORE 1 a=b", "fault 1"},
		{"TYPE 77 0", "fault 1"},
		{"RAW 000007 06 00 00000000 00000000000000", "fault 6"}, // PING of 7 bytes
		{"RAW 000004 02 00 00000001 00000000", "fault 6"},       // PRIORITY of 4 bytes, a fault of the stream, which is idle
		{"RAW 000004 08 00 00000001 00000000", "fault 1"},       // WINDOW_UPDATE of 0
		{"RAW 000006 04 01 00000000 000100000000", "fault 6"},   // SETTINGS with Ack, and a setting
		{"RAW 004001 04 00 00000000", "fault 6"},                // too great
	} {
		r := newRig(t, true, 0)
		r.feed(split.Preface())
		r.run("> "+x.frame, "! "+x.want, "Gone -> true", "< SETTINGS 3=16 6=4096 8=1", "< GOAWAY 0 "+x.want[6:])
		r = newRig(t, false, 0)
		r.preface()
		r.run("> "+x.frame, "! "+x.want, "Gone -> true", "< SETTINGS 2=0 4=0 6=4096", "< GOAWAY 0 "+x.want[6:])
	}
}

func TestP14_1Settings(t *testing.T) {
	for _, x := range []struct{ frame, want string }{
		{"SETTINGS", "settings"},
		{"SETTINGS 1=0 2=1 3=5 4=2147483647 5=16777215 6=7 8=1 77=5", "settings"},
		{"SETTINGS 2=2", "fault 1"},
		{"SETTINGS 4=2147483648", "fault 3"},
		{"SETTINGS 5=16383", "fault 1"},
		{"SETTINGS 8=2", "fault 1"},
		{"SETTINGS 8=1 8=0", "fault 1"},
	} {
		r := server(t)
		if x.want == "settings" {
			r.run("> "+x.frame, "! settings", "< SETTINGS ack", "Gone -> false")
			continue
		}
		r.run("> "+x.frame, "! "+x.want, "< GOAWAY 0 "+x.want[6:], "Gone -> true")
	}
	r := server(t)
	r.run("> SETTINGS 1=0 2=0 3=5", "! settings", "> SETTINGS 4=9 5=16385 6=7 8=1", "! settings")
	if got := r.c.Peer(); got != (api.Settings{Streams: 5, Window: 9, Frame: 16385, Headers: 7, Connect: true}) {
		t.Error(got)
	}
	r.run("< SETTINGS ack", "< SETTINGS ack", "> SETTINGS 8=0", "! fault 1")
	if got := r.c.Peer(); !got.Connect {
		t.Error(got)
	}
}

// One list was sent, so one may be acknowledged.
func TestP14_1SettingsAck(t *testing.T) {
	r := server(t)
	r.run("> SETTINGS ack", "! fault 1", "< GOAWAY 0 1")
	r = client(t, 10)
	r.run("> SETTINGS ack", "! fault 1", "< GOAWAY 0 1")
	// It needn't be: nothing hangs on it.
	r = newRig(t, true, 0)
	r.feed(split.Preface())
	r.run("> SETTINGS", "! settings", "> HEADERS 1 a=b", "! headers 1 a=b", "> SETTINGS ack", "< SETTINGS 3=16 6=4096 8=1", "< SETTINGS ack")
}

// A list that is wrong in its middle is applied not at all.
func TestP14_1SettingsWhole(t *testing.T) {
	r := server(t)
	before := r.c.Peer()
	r.run("> SETTINGS 3=5 2=2 4=7", "! fault 1")
	if r.c.Peer() != before {
		t.Error(r.c.Peer())
	}
}

// The encoder's table is kept within what the other side lets; it hears of it ahead of the next block.
func TestP14_1SettingsTable(t *testing.T) {
	block := func(r *rig) string {
		f, wrong := frame.Get(r.c.Out(1000))
		if wrong != (api.Fault{}) || f.Type != api.HeadersFrame {
			t.Fatal(f, wrong)
		}
		return string(f.Data)
	}
	r := server(t)
	r.run("> HEADERS 1 a=b", "! headers 1 a=b", "> SETTINGS 1=0", "! settings", "< SETTINGS ack", "Answer 1 a=b -> OK")
	if b := block(r); b != "\x20\x40\x01a\x01b" {
		t.Errorf("%q", b)
	}
	r.run("> HEADERS 3 a=b", "! headers 3 a=b", "Answer 3 a=b -> OK")
	if b := block(r); b != "\x40\x01a\x01b" { // it doesn't stay in a table of 0
		t.Errorf("%q", b)
	}
	r.run("> HEADERS 5 a=b", "! headers 5 a=b", "> SETTINGS 1=33", "! settings", "> SETTINGS 1=10000", "! settings", "< SETTINGS ack", "< SETTINGS ack", "Answer 5 a=b -> OK")
	if b := block(r); b != "\x3f\x02\x3f\xe1\x1f\x40\x01a\x01b" { // first the lowest one since the last block; above MaxTable none
		t.Errorf("%q", b)
	}
	r.run("> HEADERS 7 a=b", "! headers 7 a=b", "Answer 7 a=b -> OK")
	if b := block(r); b != "\xbe" {
		t.Errorf("%q", b)
	}
}

func TestP14_1Open(t *testing.T) {
	r := newRig(t, false, 10)
	r.run("Open a=b -> 0 ErrFull", "Open -> 0 ErrFull")
	r.preface()
	r.run("< SETTINGS 2=0 4=10 6=4096", "Open a=b -> 0 ErrFull")
	if n := r.c.Feed(r.bytes("SETTINGS 3=2")); n != 15 {
		t.Error(n)
	}
	r.run("Open a=b -> 0 ErrFull") // nothing came by yet
	if l := r.poll(); !slices.Equal(l, []string{"settings"}) {
		t.Error(l)
	}
	r.run(`
		State 1 -> Idle
		Open :method=CONNECT !a=b -> 1 OK
		State 1 -> Open
		Live -> 1
		Open end -> 3 OK
		State 3 -> EndedHere
		Live -> 2
		Open a=b -> 0 ErrFull
		State 5 -> Idle
		Quiet -> false
		< SETTINGS ack
		< HEADERS 1 :method=CONNECT !a=b
		< HEADERS 3 end
		Quiet -> true
		# as many as that lets now
		> SETTINGS 3=3
		! settings
		Open a=b -> 5 OK
		Open a=b -> 0 ErrFull
		> RST 3 8
		! reset 3 8
		Open a=b -> 7 OK
		Open a=b -> 0 ErrFull
		> SETTINGS 3=0
		! settings
		Reset 5 0 -> OK
		Reset 7 0 -> OK
		Reset 1 0 -> OK
		Live -> 0
		Open a=b -> 0 ErrFull
		> SETTINGS 3=4294967295
		! settings
		Open a=b -> 9 OK
		State 8 -> Idle
		State 10 -> Idle
		State 11 -> Idle`)
}

func TestP14_1OpenShut(t *testing.T) {
	r := server(t)
	r.run("Open a=b -> 0 ErrKind", "Away 0", "Open -> 0 ErrKind", "> SETTINGS ack", "! fault 1", "Open -> 0 ErrKind", "Live -> 0")
	r = client(t, 10)
	r.run("Open -> 1 OK", "Away 0", "Open -> 0 ErrShut", "Live -> 1", "State 3 -> Idle")
	r = client(t, 10)
	r.run("Open -> 1 OK", "> GOAWAY 1 0", "! away 1 0", "Open -> 0 ErrShut", "Live -> 1")
	r = client(t, 10)
	r.run("> SETTINGS 3=0", "! settings", "> SETTINGS ack", "! fault 1", "Open -> 0 ErrShut")
	r = newRig(t, false, 10)
	r.run("Away 0", "Open -> 0 ErrShut") // ahead of ErrFull
}

// Great blocks are cut.
func TestP14_1OpenGreat(t *testing.T) {
	r := client(t, 10)
	r.run("Open !a=*1000 -> 1 OK", "< HEADERS 1 !a=*1000")
	l := []api.Field{{Name: "x", Value: strings.Repeat("\x00", 20000), Never: true}, {Name: "y", Value: strings.Repeat("\x01", 20000), Never: true}}
	if n, e := r.c.Open(l, true); n != 3 || e != api.OK {
		t.Fatal(n, e)
	}
	var kinds []string
	for b := r.c.Out(1 << 20); len(b) > 0; {
		n, _ := frame.Head(b)
		f, wrong := frame.Get(b[:n])
		if wrong != (api.Fault{}) {
			t.Fatal(wrong)
		}
		kinds = append(kinds, fmt.Sprint(f.Type, f.Flags, f.Stream, n))
		b = b[n:]
	}
	if len(kinds) != 3 || kinds[0] != "1 1 3 16393" || kinds[1] != "9 0 3 16393" || !strings.HasPrefix(kinds[2], "9 4 3 ") {
		t.Error(kinds)
	}
}

func TestP14_1Answer(t *testing.T) {
	r := server(t)
	r.run(`
		Answer 1 a=b -> ErrState
		Answer 0 a=b -> ErrState
		Answer 2 a=b -> ErrState
		> HEADERS 1 a=b
		! headers 1 a=b
		> HEADERS 5 a=b
		! headers 5 a=b
		Answer 3 a=b -> ErrState
		Answer 7 a=b -> ErrState
		Answer 1 !:status=200 c=d -> OK
		State 1 -> Open
		Answer 1 a=b -> ErrState
		Data 1 abc -> OK
		Answer 1 e=f end -> ErrState
		Waits 1 -> 3
		< HEADERS 1 !:status=200 c=d
		< DATA 1 abc
		Answer 1 a=b -> ErrState
		Answer 1 e=f end -> OK
		State 1 -> EndedHere
		Answer 1 e=f end -> ErrState
		Data 1 - -> ErrState
		< HEADERS 1 e=f end
		# the first ones may end it; and they may come behind DATA
		Answer 5 a=b end -> OK
		State 5 -> EndedHere
		> HEADERS 7 a=b end
		! headers 7 a=b end
		Data 7 xyz -> OK
		Answer 7 a=b -> ErrState
		< HEADERS 5 a=b end
		< DATA 7 xyz
		Answer 7 a=b -> OK
		Answer 7 c=d end -> OK
		State 7 -> Over
		Answer 7 c=d end -> ErrState
		< HEADERS 7 a=b
		< HEADERS 7 c=d end
		Live -> 2`)
}

// An end that waits without bytes is DATA that waits: nothing may be sent behind it.
func TestP14_1AnswerBehindEnd(t *testing.T) {
	r := server(t)
	r.run("> HEADERS 1 a=b", "! headers 1 a=b", "Data 1 - end -> OK", "Answer 1 a=b -> ErrState", "Answer 1 a=b end -> ErrState", "State 1 -> Open",
		"< DATA 1 - end", "State 1 -> EndedHere", "Answer 1 a=b -> ErrState", "Answer 1 a=b end -> ErrState")
}

func TestP14_1AnswerClient(t *testing.T) {
	r := client(t, 10)
	r.run(`
		Answer 1 a=b -> ErrState
		Open a=b -> 1 OK
		Answer 1 c=d -> ErrState
		Answer 1 c=d end -> OK
		State 1 -> EndedHere
		Open a=b end -> 3 OK
		Answer 3 c=d end -> ErrState
		Open a=b -> 5 OK
		> HEADERS 5 g=h end
		! headers 5 g=h end
		Answer 5 c=d -> ErrState
		Answer 5 c=d end -> OK
		State 5 -> Over
		Open a=b -> 7 OK
		Reset 7 5 -> OK
		Answer 7 c=d end -> ErrState
		Open a=b -> 9 OK
		> RST 9 5
		! reset 9 5
		Answer 9 c=d end -> ErrState
		< HEADERS 1 a=b
		< HEADERS 1 c=d end
		< HEADERS 3 a=b end
		< HEADERS 5 a=b
		< HEADERS 5 c=d end
		< HEADERS 7 a=b
		< RST 7 5
		< HEADERS 9 a=b`)
}

func TestP14_1Data(t *testing.T) {
	r := server(t)
	r.run(`
		Data 1 abc -> ErrState
		Data 0 - -> ErrState
		> HEADERS 1 a=b
		! headers 1 a=b
		Data 2 abc -> ErrState
		Data 3 abc -> ErrState
		Data 1 - -> OK
		Quiet -> true
		Data 1 abc -> OK
		Waits 1 -> 3
		Quiet -> false
		Data 1 def -> OK
		Waits 1 -> 6
		Data 1 g end -> OK
		Data 1 - -> ErrState
		Data 1 - end -> ErrState
		State 1 -> Open
		< DATA 1 abcdefg end
		State 1 -> EndedHere
		Waits 1 -> 0
		Data 1 - -> ErrState
		> HEADERS 3 a=b end
		! headers 3 a=b end
		Data 3 - -> OK
		Data 3 - end -> OK
		State 3 -> EndedPeer
		Live -> 2
		< DATA 3 - end
		State 3 -> Over
		Live -> 1
		Data 3 - -> ErrState
		> HEADERS 5 a=b
		! headers 5 a=b
		Reset 5 0 -> OK
		Data 5 abc -> ErrState
		< RST 5 0`)
}

// MostWaiting counts what waits in all.
func TestP14_1DataFull(t *testing.T) {
	r := server(t)
	r.run(`
		> HEADERS 1 a=b
		! headers 1 a=b
		> HEADERS 3 a=b
		! headers 3 a=b
		Data 1 *65537 -> ErrFull
		Waits 1 -> 0
		Data 1 *65536 -> OK
		Data 1 x -> ErrFull
		Data 3 x -> ErrFull
		Data 3 x end -> ErrFull
		Data 5 x -> ErrState
		Data 3 - -> OK
		Waits 1 -> 65536
		Waits 3 -> 0
		< DATA 1 *16384
		< DATA 1 *16384
		< DATA 1 *16384
		< DATA 1 *16383
		Waits 1 -> 1
		Quiet -> true
		Data 3 *65535 -> OK
		Data 3 x -> ErrFull
		Data 3 - end -> OK
		Data 3 *70000 -> ErrState
		# what waits of a stream that is over goes
		Reset 3 0 -> OK
		Waits 3 -> 0
		Data 1 *65536 -> ErrFull
		Data 1 *65535 end -> OK
		Waits 1 -> 65536`)
}

// What is sent next: frames first, DATA by turns, of at most MaxFrame bytes, within both windows.
func TestP14_1Out(t *testing.T) {
	r := server(t)
	r.run(`
		> HEADERS 1 a=b
		! headers 1 a=b
		> HEADERS 3 a=b
		! headers 3 a=b
		Data 3 *20000 end -> OK
		Data 1 *20000 -> OK
		> PING abcdefgh
		< PING abcdefgh ack
		< DATA 1 *16384
		< DATA 3 *16384
		< DATA 1 *3616
		< DATA 3 *3616 end
		Data 1 *30000 -> OK
		< DATA 1 *16384
		< DATA 1 *9151
		Waits 1 -> 4465
		Quiet -> true
		> WINDOW 1 10000
		Quiet -> true
		<
		> WINDOW 0 5
		Quiet -> false
		< DATA 1 defgh
		> WINDOW 0 100000
		< DATA 1 *4460
		Quiet -> true`)
}

// A frame of DATA that was begun goes on ahead of what came behind.
func TestP14_1OutBegun(t *testing.T) {
	r := server(t)
	r.run(`
		> HEADERS 1 a=b
		! headers 1 a=b
		Data 1 abcdefghij -> OK
		Out 12 -> 12
		Waits 1 -> 0
		Quiet -> false
		Data 1 xyz end -> OK
		> PING abcdefgh
		Waits 1 -> 3
		State 1 -> Open
		< DATA 1 abcdefghij
		< PING abcdefgh ack
		< DATA 1 xyz end
		State 1 -> EndedHere`)
}

func TestP14_1OutMost(t *testing.T) {
	for _, x := range []struct{ most, want int }{{math.MinInt, 1}, {-1, 1}, {0, 1}, {1, 1}, {2, 2}, {26, 26}, {27, 27}, {28, 27}, {math.MaxInt, 27}} {
		c := conn.New(true, 0)
		if b := c.Out(x.most); len(b) != x.want {
			t.Error(x.most, len(b))
		}
	}
	// Bytes of many frames are one answer.
	r := server(t)
	r.run("> HEADERS 1 a=b", "! headers 1 a=b", "Data 1 *40000 end -> OK", "Answer 1 a=b -> ErrState", "> PING abcdefgh", "Out 40100 -> 40044",
		"< PING abcdefgh ack", "< DATA 1 *16384", "< DATA 1 *16384", "< DATA 1 *7232 end", "Out 1 -> 0")
}

func TestP14_1Feed(t *testing.T) {
	r := server(t)
	if n := r.c.Feed(nil); n != 0 {
		t.Error(n)
	}
	b := bytes.Repeat(r.bytes("PING abcdefgh ack"), 1000)
	if n := r.c.Feed(b); n != api.FrameHead+api.MaxFrame {
		t.Error(n)
	}
	r.run("Feed abc -> 0")
	if l := r.poll(); len(l) > 0 {
		t.Error(l)
	}
	if n := r.c.Feed(b[api.FrameHead+api.MaxFrame:]); n != len(b)-api.FrameHead-api.MaxFrame {
		t.Error(n)
	}
	r.run("> PING ABCDEFGH", "< PING ABCDEFGH ack")
}

// Frames are gone through until something is told, and no further.
func TestP14_1Poll(t *testing.T) {
	r := server(t)
	var b []byte
	for _, line := range []string{"PING abcdefgh", "HEADERS 1 a=b", "PING abcdefgh", "HEADERS 3 c=d"} {
		b = append(b, r.bytes(line)...)
	}
	r.c.Feed(b)
	r.run("State 1 -> Idle", "<")
	if e, ok := r.c.Poll(); !ok || e.Stream != 1 {
		t.Error(e, ok)
	}
	r.run("State 1 -> Open", "State 3 -> Idle", "< PING abcdefgh ack")
	if e, ok := r.c.Poll(); !ok || e.Stream != 3 {
		t.Error(e, ok)
	}
	r.run("State 3 -> Open", "< PING abcdefgh ack")
	if e, ok := r.c.Poll(); ok || !reflect.DeepEqual(e, api.Event{}) {
		t.Error(e, ok)
	}
}

func TestP14_1Reset(t *testing.T) {
	r := server(t)
	r.run(`
		Reset 1 8 -> ErrState
		Reset 0 8 -> ErrState
		> HEADERS 1 a=b
		! headers 1 a=b
		> HEADERS 3 a=b end
		! headers 3 a=b end
		> HEADERS 5 a=b
		! headers 5 a=b
		Answer 5 a=b end -> OK
		Data 1 abc -> OK
		Reset 1 4294967295 -> OK
		Reset 3 0 -> OK
		Reset 5 2 -> OK
		State 1 -> ResetHere
		State 3 -> ResetHere
		State 5 -> ResetHere
		Waits 1 -> 0
		Live -> 0
		Reset 1 8 -> ErrState
		Reset 7 8 -> ErrState
		< HEADERS 5 a=b end
		< RST 1 4294967295
		< RST 3 0
		< RST 5 2
		Quiet -> true
		# what is still on its way plays no part
		> HEADERS 1 c=d end
		> DATA 1 abc
		> DATA 1 - end
		> RST 1 8
		> WINDOW 1 5
		State 1 -> ResetHere
		<
		> HEADERS 7 a=b end
		! headers 7 a=b end
		Answer 7 a=b end -> OK
		State 7 -> Over
		Reset 7 8 -> ErrState
		> HEADERS 9 a=b
		! headers 9 a=b
		> RST 9 8
		! reset 9 8
		Reset 9 8 -> ErrState
		< HEADERS 7 a=b end`)
}

func TestP14_1Away(t *testing.T) {
	r := server(t)
	r.run(`
		> HEADERS 5 a=b
		! headers 5 a=b
		Away 9
		Away 10
		< GOAWAY 5 9
		Gone -> false
		# streams that are there go on
		> DATA 5 abc
		! data 5 abc
		Answer 5 a=b -> OK
		Data 5 xyz -> OK
		< HEADERS 5 a=b
		< DATA 5 xyz
		# new ones aren't opened
		> HEADERS 9 c=d
		State 9 -> ResetHere
		State 7 -> ResetHere
		State 11 -> Idle
		Live -> 1
		> DATA 9 abc end
		> HEADERS 9 e=f end
		> RST 9 1
		> HEADERS 11 c=d end
		Answer 9 a=b -> ErrState
		Data 9 abc -> ErrState
		Reset 9 0 -> ErrState
		<
		# their header fields are read: the tables of both sides are one
		> HEADERS 5 c=d e=f end
		! headers 5 c=d e=f end
		> HEADERS 7 a=b
		! fault 5
		< GOAWAY 11 5
		Away 3
		<`)
	r = client(t, 10)
	r.run("Open a=b -> 1 OK", "Away 0", "Away 0", "Live -> 1", "< HEADERS 1 a=b", "< GOAWAY 0 0", "> HEADERS 1 c=d", "! headers 1 c=d", "> HEADERS 3 a=b", "! fault 1", "< GOAWAY 0 1")
	// Ahead of all else.
	r = newRig(t, true, 0)
	r.run("Away 4294967295", "< SETTINGS 3=16 6=4096 8=1", "< GOAWAY 0 4294967295")
}

// Who goes away lets new streams be, however many are live.
func TestP14_1AwayFull(t *testing.T) {
	r := server(t)
	r.run(times("> HEADERS @ a=b\n! headers @ a=b", odd(1, 31)...), "Away 0", "> HEADERS 33 a=b", "State 33 -> ResetHere", "Live -> 16", "< GOAWAY 31 0")
}

func TestP14_1GotAway(t *testing.T) {
	r := client(t, 10)
	r.run(`
		Open -> 1 OK
		Open -> 3 OK
		Open end -> 5 OK
		Open -> 7 OK
		Open -> 9 OK
		Open -> 11 OK
		Data 3 *10 -> OK
		Data 9 *10 -> OK
		< HEADERS 1
		< HEADERS 3
		< HEADERS 5 end
		< HEADERS 7
		< HEADERS 9
		< HEADERS 11
		< DATA 3 abcdefghij
		< DATA 9 abcdefghij
		Data 3 *10 -> OK
		Data 9 *10 -> OK
		Reset 7 8 -> OK
		> HEADERS 11 a=b end
		! headers 11 a=b end
		> GOAWAY 3 77
		! away 3 77
		! reset 5 7
		! reset 9 7
		! reset 11 7
		State 1 -> Open
		State 3 -> Open
		State 5 -> ResetPeer
		State 7 -> ResetHere
		State 9 -> ResetPeer
		State 11 -> ResetPeer
		Waits 3 -> 10
		Waits 9 -> 0
		Live -> 2
		Gone -> false
		< RST 7 8
		< DATA 3 abcdefghij
		> GOAWAY 1 0
		! away 1 0
		! reset 3 7
		> GOAWAY 0 5
		! away 0 5
		! reset 1 7
		> GOAWAY 0 5
		! away 0 5
		> GOAWAY 2147483647 0
		! away 2147483647 0`)
	// A server opened none.
	r = server(t)
	r.run("> HEADERS 1 a=b", "! headers 1 a=b", "> HEADERS 3 a=b", "! headers 3 a=b", "> GOAWAY 0 0", "! away 0 0", "Live -> 2", "> HEADERS 5 a=b", "! headers 5 a=b", "<")
}

func TestP14_1Ping(t *testing.T) {
	for _, r := range []*rig{server(t), client(t, 10)} {
		r.run("> PING abcdefgh", "> PING ABCDEFGH ack", "> PING 01234567", "< PING abcdefgh ack", "< PING 01234567 ack", "> RAW 000008 06 fe 00000000 3131313131313131", "< PING 11111111 ack")
	}
}

func TestP14_1NothingToDo(t *testing.T) {
	for _, r := range []*rig{server(t), client(t, 10)} {
		r.run("> PRIORITY 1", "> PRIORITY 2", "> PRIORITY 2147483647", "> TYPE 10 0", "> TYPE 255 1", "> TYPE 77 2147483647", "<", "State 1 -> Idle", "Gone -> false")
	}
}

func TestP14_1Push(t *testing.T) {
	r := server(t)
	r.run("> HEADERS 1 a=b", "! headers 1 a=b", "> PUSH 1 2", "! fault 1", "< GOAWAY 1 1")
	r = client(t, 10)
	r.run("Open -> 1 OK", "> PUSH 1 2", "! fault 1", "< HEADERS 1", "< GOAWAY 0 1")
}

func TestP14_1HeadersServer(t *testing.T) {
	r := server(t)
	r.run(`
		> HEADERS 1 :method=GET !x=y pad=3
		! headers 1 :method=GET !x=y
		State 1 -> Open
		> HEADERS 7 end on=3
		! headers 7 end
		State 7 -> EndedPeer
		State 3 -> ResetHere
		State 5 -> ResetHere
		State 9 -> Idle
		State 6 -> Idle
		Live -> 2
		> HEADERS 1 a=b end
		! headers 1 a=b end
		State 1 -> EndedPeer
		> HEADERS 9 a=b
		! headers 9 a=b
		Answer 9 a=b end -> OK
		> HEADERS 9 a=b end
		! headers 9 a=b end
		State 9 -> Over
		Live -> 2
		< HEADERS 9 a=b end
		> HEADERS 2147483647 a=b
		! headers 2147483647 a=b
		State 2147483647 -> Open
		State 2147483649 -> Idle
		State 4294967295 -> Idle
		<`)
}

// wrong are frames that come behind others to a server, and what is told of the last one; 33: of the stream 33.
var wrong = []struct{ ahead, frame, want string }{
	// of their own
	{"", "RAW 004001 00 00 00000001", "fault 6"},
	{"", "RAW 000004 08 00 00000000 00000000", "fault 1"},
	{"", "RAW 000004 08 00 00000001 00000000", "fault 1"}, // of an idle stream: of the connection
	{"", "RAW 000004 02 00 00000002 00000000", "fault 6"},
	{"open", "RAW 000004 08 00 00000001 00000000", "fault 1 of 1"},
	{"open", "RAW 000004 02 00 00000001 00000000", "fault 6 of 1"},
	{"open ended", "RAW 000004 02 00 00000001 00000000", "fault 6 of 1"},
	{"open answered", "RAW 000004 02 00 00000001 00000000", "fault 6 of 1"},
	{"open over", "RAW 000004 02 00 00000001 00000000", ""},
	{"open reset", "RAW 000004 02 00 00000001 00000000", ""},
	{"open got", "RAW 000004 08 00 00000001 00000000", ""},
	{"passed", "RAW 000004 08 00 00000001 00000000", ""},
	{"passed", "RAW 000004 08 00 00000002 00000000", "fault 1"},
	// blocks
	{"", "MORE 1 a=b", "fault 1"},
	{"open", "MORE 1 a=b end", "fault 1"},
	{"part", "PING abcdefgh", "fault 1"},
	{"part", "SETTINGS ack", "fault 1"},
	{"part", "PRIORITY 1", "fault 1"},
	{"part", "TYPE 77 1", "fault 1"},
	{"part", "HEADERS 1 a=b", "fault 1"},
	{"part", "MORE 3 a=b", "fault 1"},
	{"part", "DATA 1 abc", "fault 1"},
	{"part", "PUSH 1 2", "fault 1"},
	{"part", "RAW 000007 06 00 00000000 00000000000000", "fault 6"}, // its own comes first
	{"", "HEADERS 1 hex:80", "fault 9"},
	{"", "HEADERS 2 hex:80", "fault 9"},
	{"", "HEADERS 1 hex:bf", "fault 9"},
	{"", "HEADERS 1 hex:3fe21f", "fault 9"}, // a table of 4097
	{"", "HEADERS 1 hex:823fe11f", "fault 9"},
	{"open reset", "HEADERS 1 hex:80", "fault 9"},
	{"open over", "HEADERS 1 hex:80", "fault 9"},
	{"passed", "HEADERS 1 hex:80", "fault 9"},
	{"part", "MORE 1 hex:80", "fault 9"},
	{"", "HEADERS 1 !a=*4064", "fault 11"},
	{"", "HEADERS 2 !a=*4064", "fault 11"},
	{"", "RAW 002001 01 00 00000001" + strings.Repeat(" 82", 8193), "fault 11"},
	// HEADERS
	{"", "HEADERS 2 a=b", "fault 1"},
	{"", "HEADERS 2147483646 a=b end", "fault 1"},
	{"passed", "HEADERS 2 a=b", "fault 1"},
	{"passed", "HEADERS 1 a=b", "fault 5"},
	{"passed", "HEADERS 3 a=b end", "fault 5"},
	{"open", "HEADERS 1 a=b", "fault 1 of 1"},
	{"open answered", "HEADERS 1 a=b", "fault 1 of 1"},
	{"open ended", "HEADERS 1 a=b", "fault 5 of 1"},
	{"open ended", "HEADERS 1 a=b end", "fault 5 of 1"},
	{"open over", "HEADERS 1 a=b", "fault 5"},
	{"open over", "HEADERS 1 a=b end", "fault 5"},
	{"open reset", "HEADERS 1 a=b", ""},
	{"open got", "HEADERS 1 a=b", ""}, // of the stream, which isn't live
	{"open got", "HEADERS 1 a=b end", ""},
	// DATA
	{"", "DATA 1 abc", "fault 1"},
	{"", "DATA 2 abc", "fault 1"},
	{"", "DATA 1 - end", "fault 1"},
	{"passed", "DATA 2 abc", "fault 1"},
	{"passed", "DATA 7 abc", "fault 1"},
	{"passed", "DATA 1 abc", ""},
	{"passed", "DATA 3 abc end", ""},
	{"open ended", "DATA 1 abc", "fault 5 of 1"},
	{"open ended", "DATA 1 - end", "fault 5 of 1"},
	{"open over", "DATA 1 abc", "fault 5"},
	{"open over", "DATA 1 - end", "fault 5"},
	{"open reset", "DATA 1 abc", ""},
	{"open got", "DATA 1 abc end", ""},
	// RST_STREAM
	{"", "RST 1 0", "fault 1"},
	{"", "RST 2 0", "fault 1"},
	{"passed", "RST 1 0", ""},
	{"passed", "RST 7 0", "fault 1"},
	{"open over", "RST 1 0", ""},
	{"open reset", "RST 1 0", ""},
	{"open got", "RST 1 0", ""},
	// PUSH_PROMISE
	{"", "PUSH 1 2", "fault 1"},
	// WINDOW_UPDATE
	{"", "WINDOW 1 1", "fault 1"},
	{"", "WINDOW 2 1", "fault 1"},
	{"passed", "WINDOW 1 2147483647", ""},
	{"passed", "WINDOW 7 1", "fault 1"},
	{"", "WINDOW 0 2147418113", "fault 3"},
	{"open", "WINDOW 1 2147418113", "fault 3 of 1"},
	{"open ended", "WINDOW 1 2147418113", "fault 3 of 1"},
	{"open answered", "WINDOW 1 2147418113", "fault 3 of 1"},
	{"open over", "WINDOW 1 2147418113", ""},
	{"open reset", "WINDOW 1 2147418113", ""},
	{"open got", "WINDOW 1 2147418113", ""},
	{"", "WINDOW 0 2147418112", ""},
	{"open", "WINDOW 1 2147418112", ""},
}

// ahead brings a server to where a frame comes.
func (r *rig) ahead(words string) {
	r.t.Helper()
	for _, w := range strings.Fields(words) {
		switch w {
		case "open":
			r.run("> HEADERS 1 a=b", "! headers 1 a=b")
		case "ended":
			r.run("> HEADERS 1 a=b end", "! headers 1 a=b end", "State 1 -> EndedPeer")
		case "answered":
			r.run("Answer 1 a=b end -> OK", "< HEADERS 1 a=b end", "State 1 -> EndedHere")
		case "over":
			r.run("> HEADERS 1 a=b end", "! headers 1 a=b end", "Answer 1 a=b end -> OK", "< HEADERS 1 a=b end", "State 1 -> Over")
		case "reset":
			r.run("Reset 1 0 -> OK", "< RST 1 0", "State 1 -> ResetHere")
		case "got":
			r.run("> RST 1 8", "! reset 1 8", "State 1 -> ResetPeer")
		case "passed":
			r.run("> HEADERS 5 a=b", "! headers 5 a=b")
		case "part":
			r.run("> HEADERS 1 a=b part")
		}
	}
}

// Each fault is told, and answered as one of its scope; what isn't one is neither.
func TestP14_1Wrong(t *testing.T) {
	for _, x := range wrong {
		t.Run(x.ahead+" "+x.frame[:min(len(x.frame), 40)], func(t *testing.T) {
			r := server(t)
			r.ahead(x.ahead)
			live, state, last := r.c.Live(), r.c.State(1), 0
			if strings.Contains(x.ahead, "open") {
				last = 1
			} else if x.ahead == "passed" {
				last = 5
			}
			code, stream, ofStream := strings.Cut(strings.TrimPrefix(x.want, "fault "), " of ")
			switch {
			case x.want == "":
				r.run("> "+x.frame, "<", "Gone -> false", fmt.Sprintf("Live -> %d", live), "State 1 -> "+stateText(state), "> PING abcdefgh", "< PING abcdefgh ack")
			case ofStream:
				r.run("> "+x.frame, "! "+x.want, "< RST "+stream+" "+code, "State 1 -> ResetHere", "Gone -> false", fmt.Sprintf("Live -> %d", live-1), "> PING abcdefgh", "< PING abcdefgh ack")
			default:
				r.run("> "+x.frame, "! "+x.want, fmt.Sprintf("< GOAWAY %d %s", last, code), "Gone -> true", "State 1 -> "+stateText(state), "Quiet -> true", "Feed abc -> 0", "<")
			}
		})
	}
}

// A side that is gone sends what waits as frames, and nothing more.
func TestP14_1Gone(t *testing.T) {
	r := server(t)
	r.run(`
		> HEADERS 1 a=b
		! headers 1 a=b
		> HEADERS 3 a=b
		! headers 3 a=b
		> DATA 1 *16384
		! data 1 *16384
		> DATA 1 *16384
		! data 1 *16384
		Answer 1 a=b -> OK
		Data 1 abcdefghij -> OK
		Out 22 -> 22
		Answer 3 c=d -> OK
		Data 3 abc -> OK
		> SETTINGS ack
		! fault 1
		Gone -> true
		Quiet -> false
		Answer 3 a=b end -> ErrShut
		Answer 7 a=b end -> ErrShut
		Data 3 x -> ErrShut
		Data 7 x -> ErrShut
		Reset 3 0 -> ErrShut
		Reset 7 0 -> ErrShut
		Use 1 32768
		Away 0
		Feed abc -> 0
		State 1 -> Open
		State 3 -> Open
		Live -> 2
		< HEADERS 1 a=b
		< DATA 1 abcdefghij
		< HEADERS 3 c=d
		< GOAWAY 3 1
		Quiet -> true
		<`)
}

// What was fed behind the fault isn't gone through.
func TestP14_1GoneBehind(t *testing.T) {
	r := server(t)
	b := append(r.bytes("SETTINGS ack"), r.bytes("HEADERS 1 a=b")...)
	r.c.Feed(append(b, r.bytes("PING abcdefgh")...))
	if l := r.poll(); !slices.Equal(l, []string{"fault 1"}) {
		t.Error(l)
	}
	r.run("State 1 -> Idle", "< GOAWAY 0 1", "<")
	if l := r.poll(); len(l) > 0 {
		t.Error(l)
	}
}

// Events that stand ahead of a fault are told ahead of it.
func TestP14_1GoneAhead(t *testing.T) {
	r := client(t, 10)
	r.run("Open -> 1 OK", "Open -> 3 OK", "< HEADERS 1", "< HEADERS 3", times("> PING abcdefgh", make([]int, 64)...), "Reset 1 0 -> OK",
		"> GOAWAY 0 0", "! away 0 0", "! reset 3 7", "! fault 11", "Gone -> true")
	r.run(times("< PING abcdefgh ack", make([]int, 64)...), "< RST 1 0", "< GOAWAY 0 11")
}

func TestP14_1HeadersClient(t *testing.T) {
	r := client(t, 10)
	r.run(`
		Open a=b -> 1 OK
		Open a=b end -> 3 OK
		Open a=b -> 5 OK
		Open a=b end -> 7 OK
		> HEADERS 1 :status=200
		! headers 1 :status=200
		State 1 -> Open
		> HEADERS 3 :status=200
		! headers 3 :status=200
		State 3 -> EndedHere
		> HEADERS 1 c=d end
		! headers 1 c=d end
		State 1 -> EndedPeer
		> HEADERS 3 c=d end
		! headers 3 c=d end
		State 3 -> Over
		> HEADERS 5 :status=404 end
		! headers 5 :status=404 end
		State 5 -> EndedPeer
		> HEADERS 7 :status=404 end
		! headers 7 :status=404 end
		State 7 -> Over
		Live -> 2
		< HEADERS 1 a=b
		< HEADERS 3 a=b end
		< HEADERS 5 a=b
		< HEADERS 7 a=b end
		# a second one has to end it
		Open a=b -> 9 OK
		> HEADERS 9 :status=200
		! headers 9 :status=200
		> HEADERS 9 :status=200
		! fault 1 of 9
		< HEADERS 9 a=b
		< RST 9 1
		Open a=b end -> 11 OK
		> HEADERS 11 :status=200
		! headers 11 :status=200
		> HEADERS 11 :status=200
		! fault 1 of 11
		< HEADERS 11 a=b end
		< RST 11 1
		# the first one may come behind DATA, and behind the end, if it doesn't end it
		Open a=b -> 13 OK
		> DATA 13 abc
		! data 13 abc
		> HEADERS 13 :status=200
		! headers 13 :status=200
		Open a=b -> 15 OK
		> DATA 15 - end
		! data 15 - end
		> HEADERS 15 :status=200
		! headers 15 :status=200
		State 15 -> EndedPeer
		> HEADERS 15 :status=200
		! fault 5 of 15
		< HEADERS 13 a=b
		< HEADERS 15 a=b
		< RST 15 5
		Open a=b -> 17 OK
		> DATA 17 - end
		! data 17 - end
		> HEADERS 17 :status=200 end
		! fault 5 of 17
		< HEADERS 17 a=b
		< RST 17 5
		Reset 13 0 -> OK
		> HEADERS 13 e=f
		> HEADERS 13 e=f end
		Open -> 19 OK
		> RST 19 1
		! reset 19 1
		> HEADERS 19 e=f
		< RST 13 0
		< HEADERS 19
		> HEADERS 7 e=f
		! fault 5
		< GOAWAY 0 5`)
	for _, frame := range []string{"HEADERS 3 a=b", "HEADERS 3 a=b end", "HEADERS 2 a=b", "DATA 3 abc", "DATA 2 abc", "RST 3 0", "RST 2 0", "WINDOW 3 1", "WINDOW 2 1"} {
		r = client(t, 10)
		r.run("Open -> 1 OK", "> "+frame, "! fault 1", "< HEADERS 1", "< GOAWAY 0 1")
	}
}

// Of the other side's streams MostStreams are live; one more is refused.
func TestP14_1MostStreams(t *testing.T) {
	r := server(t)
	r.run(times("> HEADERS @ a=b\n! headers @ a=b", odd(1, 31)...), `
		Live -> 16
		> HEADERS 33 c=d
		State 33 -> ResetHere
		Live -> 16
		> HEADERS 35 c=d end
		State 35 -> ResetHere
		< RST 33 7
		< RST 35 7
		> DATA 33 abc end
		> RST 35 0
		Answer 33 a=b -> ErrState
		<
		> RST 5 0
		! reset 5 0
		Live -> 15
		> HEADERS 37 c=d
		! headers 37 c=d
		Live -> 16
		Answer 7 a=b end -> OK
		Live -> 16
		> HEADERS 39 c=d
		> HEADERS 7 a=b end
		! headers 7 a=b end
		State 7 -> Over
		> HEADERS 41 c=d end
		! headers 41 c=d end
		> HEADERS 33 c=d
		< HEADERS 7 a=b end
		< RST 39 7`)
}

// Streams that are over are known as long as they are among the last MostClosed.
func TestP14_1MostClosed(t *testing.T) {
	r := server(t)
	r.run("> HEADERS 1 a=b end", "! headers 1 a=b end", "Answer 1 a=b end -> OK", "State 1 -> Over",
		"> HEADERS 3 a=b", "! headers 3 a=b", "Reset 3 0 -> OK", "< HEADERS 1 a=b end", "< RST 3 0", "State 3 -> ResetHere")
	r.run(times("> HEADERS @ a=b\n! headers @ a=b\n> RST @ 0\n! reset @ 0", odd(5, 127)...), "> HEADERS 129 a=b", "! headers 129 a=b", `
		State 1 -> Over
		State 3 -> ResetHere
		State 5 -> ResetPeer
		Reset 129 0 -> OK
		State 1 -> ResetHere
		State 5 -> ResetPeer
		< RST 129 0
		# what isn't known is as if this side had reset it
		> DATA 1 abc
		> WINDOW 1 5
		> RST 1 5
		<
		> HEADERS 131 a=b
		! headers 131 a=b
		> RST 131 0
		! reset 131 0
		> HEADERS 3 a=b
		! fault 5
		< GOAWAY 131 5`)
	// Of those that are live none goes.
	r = server(t)
	r.run("> HEADERS 1 a=b", "! headers 1 a=b", times("> HEADERS @ a=b\n! headers @ a=b\n> RST @ 0\n! reset @ 0", odd(3, 201)...), "State 1 -> Open", "State 3 -> ResetHere",
		"State 73 -> ResetHere", "State 75 -> ResetPeer", "> DATA 1 abc end", "! data 1 abc end")
	// The order is that in which they were over, not their numbers'.
	r = server(t)
	r.run("> HEADERS 1 a=b end", "! headers 1 a=b end", "> HEADERS 3 a=b end", "! headers 3 a=b end", "Answer 3 a=b end -> OK", "Answer 1 a=b end -> OK",
		times("> HEADERS @ a=b\n! headers @ a=b\n> RST @ 0\n! reset @ 0", odd(5, 129)...), "State 1 -> Over", "State 3 -> ResetHere",
		"> HEADERS 131 a=b", "! headers 131 a=b", "> RST 131 0", "! reset 131 0", "State 1 -> ResetHere", "< HEADERS 3 a=b end", "< HEADERS 1 a=b end")
	// Those that were refused, and those that came behind GOAWAY, are over, too.
	r = server(t)
	r.run("> HEADERS 1 a=b end", "! headers 1 a=b end", "Answer 1 a=b end -> OK", "Away 0", times("> HEADERS @ a=b", odd(3, 127)...), "State 1 -> Over", "> HEADERS 129 a=b", "State 1 -> ResetHere",
		"< HEADERS 1 a=b end", "< GOAWAY 1 0")
	r = server(t)
	r.run("> HEADERS 1 a=b end", "! headers 1 a=b end", "Answer 1 a=b end -> OK", "< HEADERS 1 a=b end", times("> HEADERS @ a=b\n! headers @ a=b", odd(3, 33)...),
		times("> HEADERS @ a=b\n< RST @ 7", odd(35, 159)...), "State 1 -> Over", "> HEADERS 161 a=b", "State 1 -> ResetHere", "< RST 161 7")
}

// A client forgets, too: then header fields that come are nothing to it.
func TestP14_1MostClosedClient(t *testing.T) {
	r := client(t, 10)
	r.run("Open a=b end -> 1 OK", "> HEADERS 1 c=d end", "! headers 1 c=d end", "State 1 -> Over", times("Open -> @ OK\n> RST @ 0\n! reset @ 0", odd(3, 129)...), "State 1 -> ResetHere",
		"> HEADERS 1 c=d", "> DATA 1 abc", "> HEADERS 1 e=f end", "State 1 -> ResetHere", "Gone -> false", "> HEADERS 129 e=f", "> HEADERS 131 e=f", "! fault 1")
	// The one that it opened last may be the first one that is over.
	r = client(t, 10)
	r.run("> SETTINGS 3=100", "! settings", times("Open -> @ OK", odd(1, 131)...), "> RST 131 0", "! reset 131 0", times("> RST @ 0\n! reset @ 0", odd(1, 125)...), "State 131 -> ResetPeer",
		"> RST 127 0", "! reset 127 0", "State 131 -> ResetHere", "State 133 -> Idle", "> DATA 131 abc", "> HEADERS 131 a=b", "Gone -> false", "Live -> 1")
}

func TestP14_1GotData(t *testing.T) {
	r := server(t)
	r.run(`
		> HEADERS 1 a=b
		! headers 1 a=b
		> DATA 1 abc
		! data 1 abc
		> DATA 1 -
		! data 1 -
		> DATA 1 - pad=0
		! data 1 -
		> DATA 1 xyz pad=255
		! data 1 xyz
		State 1 -> Open
		> DATA 1 def end pad=1
		! data 1 def end
		State 1 -> EndedPeer
		> HEADERS 3 a=b
		! headers 3 a=b
		Answer 3 a=b end -> OK
		> DATA 3 abc
		! data 3 abc
		State 3 -> EndedHere
		> DATA 3 - end
		! data 3 - end
		State 3 -> Over
		Live -> 1
		< HEADERS 3 a=b end`)
}

func TestP14_1GotReset(t *testing.T) {
	r := server(t)
	r.run(`
		> HEADERS 1 a=b
		! headers 1 a=b
		> HEADERS 3 a=b end
		! headers 3 a=b end
		> HEADERS 5 a=b
		! headers 5 a=b
		Answer 5 a=b end -> OK
		Data 1 abcdef end -> OK
		Data 3 abcdef end -> OK
		> RST 1 4294967295
		! reset 1 4294967295
		> RST 3 0
		! reset 3 0
		> RST 5 8
		! reset 5 8
		State 1 -> ResetPeer
		State 3 -> ResetPeer
		State 5 -> ResetPeer
		Waits 1 -> 0
		Waits 3 -> 0
		Live -> 0
		Data 1 x -> ErrState
		< HEADERS 5 a=b end
		Quiet -> true`)
}

// The windows of what is sent: the connection's, each stream's, and what SETTINGS make of them.
func TestP14_3Windows(t *testing.T) {
	r := server(t)
	r.run(`
		> SETTINGS 4=5
		! settings
		> HEADERS 1 a=b
		! headers 1 a=b
		> HEADERS 3 a=b end
		! headers 3 a=b end
		< SETTINGS ack
		Data 1 abcdefgh -> OK
		Data 3 ABCDEFGH end -> OK
		< DATA 1 abcde
		< DATA 3 ABCDE
		Quiet -> true
		> WINDOW 1 1
		Quiet -> false
		< DATA 1 f
		> SETTINGS 4=7
		! settings
		< SETTINGS ack
		< DATA 3 FG
		< DATA 1 gh
		Quiet -> true
		State 3 -> EndedPeer
		# windows may be below 0
		> SETTINGS 4=0
		! settings
		< SETTINGS ack
		Data 1 ij -> OK
		> WINDOW 1 7
		> WINDOW 3 7
		<
		> WINDOW 3 1
		< DATA 3 H end
		State 3 -> Over
		> SETTINGS 4=1
		! settings
		< SETTINGS ack
		< DATA 1 i
		# one that comes now has the window that is told now
		> HEADERS 5 a=b
		! headers 5 a=b
		Data 5 xyz -> OK
		< DATA 5 x
		> WINDOW 1 2147483646
		< DATA 1 j
		> SETTINGS 4=2
		! settings
		< SETTINGS ack
		< DATA 5 y
		> SETTINGS 4=5
		! fault 3
		< GOAWAY 5 3`)
	r = client(t, 10)
	r.run("> SETTINGS 4=3", "! settings", "Open -> 1 OK", "Data 1 abcdef end -> OK", "< SETTINGS ack", "< HEADERS 1", "< DATA 1 abc", "State 1 -> Open", "> WINDOW 1 3", "< DATA 1 def end", "State 1 -> EndedHere",
		"> WINDOW 1 2147483647", "> WINDOW 1 1", "! fault 3 of 1", "< RST 1 3")
}

// A stream's window stays as long as it is live, also where this side has ended it.
func TestP14_3WindowsEnded(t *testing.T) {
	r := server(t)
	r.run("> HEADERS 1 a=b", "! headers 1 a=b", "Answer 1 a=b end -> OK", "> WINDOW 1 2147418112", "> SETTINGS 4=65536", "! fault 3", "< HEADERS 1 a=b end", "< GOAWAY 1 3")
	r = server(t)
	r.run("> HEADERS 1 a=b", "! headers 1 a=b", "> WINDOW 1 2147418112", "Reset 1 0 -> OK", "> SETTINGS 4=65536", "! settings", "< RST 1 0", "< SETTINGS ack")
}

// The windows of what comes: of the connection and of a server's streams 65535.
func TestP14_1MeterServer(t *testing.T) {
	r := newRig(t, true, 10)
	r.feed(split.Preface())
	r.run(`
		> SETTINGS 4=7
		! settings
		< SETTINGS 3=16 6=4096 8=1
		< SETTINGS ack
		> HEADERS 1 a=b
		! headers 1 a=b
		> DATA 1 *16384
		! data 1 *16384
		> DATA 1 *16384
		! data 1 *16384
		> DATA 1 *16384
		! data 1 *16384
		Use 1 32767
		<
		Use 1 1
		< WINDOW 0 32768
		< WINDOW 1 32768
		> DATA 1 *16384
		! data 1 *16384
		> DATA 1 *16384
		! data 1 *16384
		> DATA 1 *16383
		! data 1 *16383
		> DATA 1 -
		! data 1 -
		> DATA 1 x
		! fault 3
		< GOAWAY 1 3`)
}

// A stream's own window: more than it lets is a fault of the stream.
func TestP14_1MeterStream(t *testing.T) {
	r := server(t)
	r.run(`
		> HEADERS 1 a=b
		! headers 1 a=b
		> HEADERS 3 a=b
		! headers 3 a=b
		> DATA 3 *16384
		! data 3 *16384
		Use 3 2768
		> DATA 1 *15000
		! data 1 *15000
		> DATA 1 *15000
		! data 1 *15000
		Use 1 30000
		< WINDOW 0 32768
		# 35535 are left of the stream, 51919 of the connection
		> DATA 1 *16384
		! data 1 *16384
		> DATA 1 *16384
		! data 1 *16384
		> DATA 1 *2768
		! fault 3 of 1
		State 1 -> ResetHere
		< RST 1 3
		< WINDOW 0 32768
		> DATA 3 *2768
		! data 3 *2768
		Live -> 1`)
	r = client(t, 10)
	r.run("Open -> 1 OK", "Open -> 3 OK", "< HEADERS 1", "< HEADERS 3", "> DATA 1 abcdefghij", "! data 1 abcdefghij", "> DATA 1 -", "! data 1 -", "> DATA 3 abcdefghij", "! data 3 abcdefghij",
		"> DATA 3 x end", "! fault 3 of 3", "State 3 -> ResetHere", "< RST 3 3", "Use 1 4", "<", "Use 1 1", "< WINDOW 1 5", "> DATA 1 abcdef", "! fault 3 of 1", "< RST 1 3")
	// Padding counts.
	r = client(t, 10)
	r.run("Open -> 1 OK", "< HEADERS 1", "> DATA 1 abcd pad=5", "! data 1 abcd", "< WINDOW 1 6", "> DATA 1 abcd pad=2", "! fault 3 of 1", "< RST 1 3")
	// A window of 0 lets an end come.
	r = client(t, 0)
	r.run("Open -> 1 OK", "Open -> 3 OK", "< HEADERS 1", "< HEADERS 3", "> DATA 1 - end", "! data 1 - end", "> DATA 3 - pad=0", "! fault 3 of 3", "< RST 3 3")
}

// A stream that would be over by what is too much is reset all the same: the fault is answered.
func TestP14_1MeterEnd(t *testing.T) {
	r := client(t, 10)
	r.run("Open end -> 1 OK", "< HEADERS 1 end", "> DATA 1 abcdefghijk end", "! fault 3 of 1", "State 1 -> ResetHere", "< RST 1 3")
}

func TestP14_1Use(t *testing.T) {
	r := client(t, 10)
	r.run(`
		Open -> 1 OK
		Open -> 3 OK
		< HEADERS 1
		< HEADERS 3
		> DATA 1 abcdef
		! data 1 abcdef
		> DATA 3 abcdef
		! data 3 abcdef
		Use 1 -5
		Use 1 0
		Use 0 5
		Use 2 5
		Use 5 5
		<
		Use 1 4
		<
		Use 1 1
		< WINDOW 1 5
		# of more than were told the others don't count
		Use 1 2147483647
		<
		> DATA 1 abcdefghi
		! data 1 abcdefghi
		Use 1 3
		<
		Use 1 1
		< WINDOW 1 5
		# none are told of a stream that the other side ended
		> DATA 3 - end
		! data 3 - end
		Use 3 6
		<
		Reset 3 0 -> OK
		Use 3 6
		< RST 3 0
		> DATA 1 abcde
		! data 1 abcde
		Use 1 -2147483648
		<`)
}

// The connection's window: what a stream was told counts, and what it wasn't.
func TestP14_1UseConnection(t *testing.T) {
	r := client(t, 65535)
	r.run(`
		Open -> 1 OK
		Open -> 3 OK
		< HEADERS 1
		< HEADERS 3
		> DATA 1 *16384
		! data 1 *16384
		> DATA 1 *16384
		! data 1 *16384
		> DATA 3 x
		! data 3 x
		# not those of the other stream
		Use 3 40000
		Use 3 40000
		<
		Use 1 32766
		<
		Use 1 1
		< WINDOW 0 32768
		Use 1 1
		< WINDOW 1 32768`)
}

// What was told of a stream counts as used up, when that is over: in every way.
func TestP14_1UseOver(t *testing.T) {
	for _, x := range []struct{ name, lines string }{
		{"reset here", "Reset 1 8 -> OK\n< RST 1 8\n< WINDOW 0 40000"},
		{"reset by the other side", "> RST 1 8\n! reset 1 8\n< WINDOW 0 40000"},
		{"a fault", "> HEADERS 1 a=b\n! headers 1 a=b\n> HEADERS 1 a=b\n! fault 1 of 1\n< RST 1 1\n< WINDOW 0 40000"},
		{"gone away from", "> GOAWAY 0 0\n! away 0 0\n! reset 1 7\n< WINDOW 0 40000"},
		{"ended by DATA", "Data 1 - end -> OK\n< DATA 1 - end\n> DATA 1 xyz end\n! data 1 xyz end\nState 1 -> Over\n< WINDOW 0 40003"},
		{"ended by DATA with padding", "Data 1 - end -> OK\n< DATA 1 - end\n> DATA 1 xyz end pad=6\n! data 1 xyz end\nState 1 -> Over\n< WINDOW 0 40010"},
		{"ended by HEADERS", "Data 1 - end -> OK\n< DATA 1 - end\n> HEADERS 1 a=b end\n! headers 1 a=b end\n< WINDOW 0 40000"},
		{"ended here by DATA", "> DATA 1 - end\n! data 1 - end\nData 1 abc end -> OK\nQuiet -> false\n< DATA 1 abc end\n< WINDOW 0 40000"},
		{"ended here by HEADERS", "> HEADERS 1 a=b end\n! headers 1 a=b end\nAnswer 1 a=b end -> OK\n< HEADERS 1 a=b end\n< WINDOW 0 40000"},
	} {
		t.Run(x.name, func(t *testing.T) {
			r := client(t, 50000)
			r.run("Open -> 1 OK", "< HEADERS 1", times("> DATA 1 *10000\n! data 1 *10000", 1, 2, 3, 4), "<", x.lines, "Use 1 40000", "<", "Live -> 0")
		})
	}
	// Some of it was used up by then.
	r := client(t, 50000)
	r.run("Open -> 1 OK", "< HEADERS 1", times("> DATA 1 *10000\n! data 1 *10000", 1, 2, 3, 4), "Use 1 20000", "<", "Reset 1 0 -> OK", "< RST 1 0", "< WINDOW 0 40000")
}

// What isn't told is used up at once.
func TestP14_1NotTold(t *testing.T) {
	// On streams that this side reset, and that the other side did, and that it opened once.
	r := client(t, 65535)
	r.run("Open -> 1 OK", "Reset 1 0 -> OK", "< HEADERS 1", "< RST 1 0", times("> DATA 1 *16384", 1, 2), "< WINDOW 0 32768", times("> DATA 1 *16384", 1, 2, 3, 4, 5, 6, 7, 8), times("< WINDOW 0 32768", 1, 2, 3, 4))
	r = client(t, 65535)
	r.run("Open -> 1 OK", "> RST 1 0", "! reset 1 0", "< HEADERS 1", times("> DATA 1 *16384", 1, 2), "< WINDOW 0 32768")
	r = server(t)
	r.run("> HEADERS 5 a=b", "! headers 5 a=b", times("> DATA 3 *16384", 1, 2), "< WINDOW 0 32768")
	// Behind the end: with the fault.
	r = server(t)
	r.run("> HEADERS 1 a=b", "! headers 1 a=b", times("> DATA 1 *10000\n! data 1 *10000", 1, 2, 3), "> HEADERS 1 a=b end", "! headers 1 a=b end", "> DATA 1 *2768", "! fault 5 of 1", "< RST 1 5", "< WINDOW 0 32768")
	// Too much for the stream.
	r = client(t, 10)
	r.run("Open -> 1 OK", "< HEADERS 1", "> DATA 1 *16384", "! fault 3 of 1", "> DATA 1 *16384", "< RST 1 3", "< WINDOW 0 32768")
	// Padding, with its length: on both meters, but none is told of a stream that is ended.
	r = client(t, 10)
	r.run("Open -> 1 OK", "< HEADERS 1", "> DATA 1 abc pad=3", "! data 1 abc", "<", "> DATA 1 - pad=0", "! data 1 -", "< WINDOW 1 5", "> DATA 1 - pad=6 end", "! data 1 - end", "<")
	r = client(t, 600)
	r.run("Open -> 1 OK", "Open -> 3 OK", "< HEADERS 1", "< HEADERS 3", times("> DATA 1 - pad=255\n! data 1 -\n> DATA 1 - pad=255\n! data 1 -\n< WINDOW 1 512", make([]int, 63)...),
		"> DATA 3 - pad=254", "! data 3 -", "> DATA 1 - pad=255", "! data 1 -", "<", "> DATA 3 - pad=0", "! data 3 -", "< WINDOW 0 32768")
}

// A side that meets a fault of the connection lets nothing more come.
func TestP14_1NotToldGone(t *testing.T) {
	r := server(t)
	r.run("> HEADERS 1 a=b end", "! headers 1 a=b end", "Answer 1 a=b end -> OK", "> HEADERS 5 a=b", "! headers 5 a=b", times("> DATA 3 *16384", 1), "> DATA 1 *16384", "! fault 5", "< HEADERS 1 a=b end", "< GOAWAY 5 5")
}

// Blocks may come in several frames.
func TestP14_1Blocks(t *testing.T) {
	r := server(t)
	r.run(`
		> HEADERS 1 a=b part
		State 1 -> Idle
		> MORE 1 c=d part
		> MORE 1 e=f
		! headers 1 a=b c=d e=f
		State 1 -> Open
		> HEADERS 1 end part
		State 1 -> Open
		> MORE 1 hex:
		! headers 1 end
		> HEADERS 3 end part
		> MORE 3 a=b end
		! headers 3 a=b end`)
	r = server(t)
	r.run("> HEADERS 1 part", times("> MORE 1 part", make([]int, 15)...), "> MORE 1 a=b", "! headers 1 a=b")
	r = server(t)
	r.run("> HEADERS 1 part", times("> MORE 1 part", make([]int, 16)...), "> MORE 1 a=b", "! fault 11")
	r = server(t)
	r.run("> HEADERS 1 hex:3fe11f82", "! headers 1 :method=GET") // a table of 4096
	r = server(t)
	r.run("> HEADERS 1 !a=*4063", "! headers 1 !a=*4063", "> HEADERS 3 !a=*4064", "! fault 11", "< GOAWAY 1 11") // 4096 and 4097
}

// A fault of a stream amid a block is answered, and the block goes on.
func TestP14_1BlocksAmid(t *testing.T) {
	r := server(t)
	r.run("> HEADERS 1 a=b", "! headers 1 a=b", "> HEADERS 3 c=d part", "> RAW 000004 08 00 00000001 00000000", "! fault 1 of 1", "< RST 1 1", "> MORE 3 e=f", "! headers 3 c=d e=f")
}

// Of frames that only answer MostReplies wait, since none waited.
func TestP14_1MostReplies(t *testing.T) {
	for _, x := range []struct {
		name string
		come string
		sent string
	}{
		{"PING", "> PING abcdefgh", "< PING abcdefgh ack"},
		{"SETTINGS", "> SETTINGS\n! settings", "< SETTINGS ack"},
	} {
		r := server(t)
		r.run(times(x.come, make([]int, 64)...), "Gone -> false", times(x.sent, make([]int, 64)...))
		r.run(times(x.come, make([]int, 65)...), "! fault 11", "Gone -> true", times(x.sent, make([]int, 65)...), "< GOAWAY 0 11")
	}
	// All sorts of them count, whoever asked for them.
	r := client(t, 1)
	r.run(times("Open -> @ OK", odd(1, 31)...), times("< HEADERS @", odd(1, 31)...),
		times("> DATA @ x\n! data @ x\nUse @ 1", odd(1, 31)...), // 16 of WINDOW_UPDATE
		times("Reset @ 0 -> OK", odd(1, 15)...),                 // 8 of RST_STREAM
		times("> DATA @ xy\n! fault 3 of @", odd(17, 31)...),    // 8 more
		times("> PING abcdefgh", make([]int, 16)...),            // 16
		times("> SETTINGS\n! settings", make([]int, 16)...),     // 16
		"> PING abcdefgh ack", "Gone -> false", "> SETTINGS", "! settings", "! fault 11",
	)
	// Those that a call sends are counted when the next frame comes.
	r = client(t, 10)
	r.run(times("> PING abcdefgh", make([]int, 64)...), "Open -> 1 OK", "Reset 1 0 -> OK", "Gone -> false", "> PRIORITY 7", "! fault 11")
	r = client(t, 10)
	r.run(times("> PING abcdefgh", make([]int, 64)...), "Open -> 1 OK", "Reset 1 0 -> OK", "Out 10000 -> 1113", "> PRIORITY 7", "Gone -> false", times("> PING abcdefgh", make([]int, 64)...), "Gone -> false")
	// Other frames don't count.
	r = client(t, 10)
	r.run("> SETTINGS 3=100", "! settings", times("Open -> @ OK", odd(1, 199)...), times("Answer @ end -> OK", odd(1, 99)...), "Away 0", times("> PING abcdefgh", make([]int, 63)...), "Gone -> false", "> PING abcdefgh", "! fault 11")
}

// What counts is the time since the row was empty, not what is left of it.
func TestP14_1MostRepliesSince(t *testing.T) {
	r := server(t)
	r.run(times("> PING abcdefgh", make([]int, 40)...), "Out 679 -> 679", times("> PING abcdefgh", make([]int, 24)...), "Gone -> false", "> PING abcdefgh", "! fault 11")
	r = server(t)
	r.run(times("> PING abcdefgh", make([]int, 40)...), "Out 680 -> 680", times("> PING abcdefgh", make([]int, 64)...), "Gone -> false", "> PING abcdefgh", "! fault 11")
	// DATA that follows at once doesn't keep it from being empty.
	r = server(t)
	r.run("> HEADERS 1 a=b", "! headers 1 a=b", "Data 1 abcdefgh -> OK", times("> PING abcdefgh", make([]int, 40)...), "Out 685 -> 685", times("> PING abcdefgh", make([]int, 64)...), "Gone -> false",
		"> PING abcdefgh", "! fault 11")
}

// A fault of a stream and too many answers are both answered.
func TestP14_1MostRepliesFault(t *testing.T) {
	r := server(t)
	r.run("> HEADERS 1 a=b", "! headers 1 a=b", times("> PING abcdefgh", make([]int, 64)...), "> HEADERS 1 a=b", "! fault 1 of 1", "! fault 11", "Gone -> true",
		times("< PING abcdefgh ack", make([]int, 64)...), "< RST 1 1", "< GOAWAY 1 11")
	// A frame that is a fault of the connection has that alone.
	r = server(t)
	r.run(times("> PING abcdefgh", make([]int, 64)...), "> HEADERS 2 a=b", "! fault 1", times("< PING abcdefgh ack", make([]int, 64)...), "< GOAWAY 0 1")
	r = client(t, 10)
	r.run(times("> PING abcdefgh", make([]int, 64)...), "Open -> 1 OK", "Reset 1 0 -> OK", "> HEADERS 2 a=b", "! fault 1", times("< PING abcdefgh ack", make([]int, 64)...), "< HEADERS 1", "< RST 1 0", "< GOAWAY 0 1")
}

func TestP14_1Nil(t *testing.T) {
	var c *conn.Conn
	if n := c.Feed([]byte("abc")); n != 0 {
		t.Error(n)
	}
	if e, ok := c.Poll(); ok || !reflect.DeepEqual(e, api.Event{}) {
		t.Error(e, ok)
	}
	if b := c.Out(10); len(b) != 0 {
		t.Error(b)
	}
	if n, e := c.Open(nil, true); n != 0 || e != api.ErrShut {
		t.Error(n, e)
	}
	if e := c.Answer(1, nil, true); e != api.ErrShut {
		t.Error(e)
	}
	if e := c.Data(1, nil, true); e != api.ErrShut {
		t.Error(e)
	}
	if e := c.Reset(1, 0); e != api.ErrShut {
		t.Error(e)
	}
	c.Use(1, 5)
	c.Away(0)
	if c.State(1) != api.Idle || c.Peer() != (api.Settings{}) || c.Waits(1) != 0 || c.Live() != 0 || !c.Gone() || !c.Quiet() {
		t.Error(c.State(1), c.Peer(), c.Waits(1), c.Live(), c.Gone(), c.Quiet())
	}
}

// What is handed in isn't kept, and what is answered isn't either.
func TestP14_1Memory(t *testing.T) {
	r := client(t, 100)
	l := []api.Field{{Name: "a", Value: "b"}}
	r.c.Open(l, false)
	l[0] = api.Field{Name: "x", Value: "y"}
	b := []byte("abc")
	r.c.Data(1, b, false)
	copy(b, "xyz")
	in := r.bytes("DATA 1 abcdef")
	if n := r.c.Feed(in); n != len(in) {
		t.Fatal(n)
	}
	clear(in)
	e, ok := r.c.Poll()
	if !ok || string(e.Data) != "abcdef" {
		t.Fatal(e, ok)
	}
	in = r.bytes("DATA 1 ghi")
	r.c.Feed(in)
	out := r.c.Out(3)
	r.out = append(r.out, out...)
	copy(out, "???")
	e2, _ := r.c.Poll()
	if string(e.Data) != "abcdef" || string(e2.Data) != "ghi" {
		t.Error(e, e2)
	}
	copy(e.Data, "??????")
	r.run("< HEADERS 1 a=b", "< DATA 1 abc", "> HEADERS 1 a=b", "! headers 1 a=b", "> HEADERS 1 a=b end", "! headers 1 a=b end")
}
