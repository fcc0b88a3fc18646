package settings_test

import (
	"math"
	"math/rand"
	"runtime"
	"slices"
	"testing"

	"louver/api"
	"louver/settings"
)

var (
	none          = api.Fault{}
	protocolFault = api.Fault{Scope: api.ConnFault, Code: api.ProtocolError}
	flowFault     = api.Fault{Scope: api.ConnFault, Code: api.FlowError}
	internalFault = api.Fault{Scope: api.ConnFault, Code: api.InternalError}
)

// begin are the settings at the beginning, written out.
var begin = api.Settings{Table: 4096, Push: true, Streams: 4294967295, Window: 65535, Frame: 16384, Headers: 4294967295}

// strange are settings that no list makes of those at the beginning.
var strange = api.Settings{Table: 1 << 31, Window: 4294967295, Frame: 7, Headers: 3, Connect: true}

// pairs are settings' numbers and values, written out.
type pairs [][2]uint32

// list is empty, but not nil, if there are no pairs, but they aren't nil.
func (p pairs) list() []api.Setting {
	if p == nil {
		return nil
	}
	l := make([]api.Setting, len(p))
	for i, x := range p {
		l[i] = api.Setting{ID: uint16(x[0]), Value: x[1]}
	}
	return l
}

func made(table uint32, push bool, streams, window, frame, headers uint32, connect bool) api.Settings {
	return api.Settings{Table: table, Push: push, Streams: streams, Window: window, Frame: frame, Headers: headers, Connect: connect}
}

// numbers are those of the settings, by which they rise.
var numbers = []uint16{1, 2, 3, 4, 5, 6, 8}

// model are settings by their numbers.
type model map[uint16]uint32

func modelOf(s api.Settings) model {
	m := model{1: s.Table, 3: s.Streams, 4: s.Window, 5: s.Frame, 6: s.Headers, 2: 0, 8: 0}
	if s.Push {
		m[2] = 1
	}
	if s.Connect {
		m[8] = 1
	}
	return m
}

func (m model) settings() api.Settings {
	return api.Settings{Table: m[1], Push: m[2] == 1, Streams: m[3], Window: m[4], Frame: m[5], Headers: m[6], Connect: m[8] == 1}
}

// put is the code of what is wrong with a setting; 0, if it is put.
func (m model) put(id uint16, v uint32) uint32 {
	_, known := m[id]
	switch {
	case !known:
		return 0
	case (id == 2 || id == 8) && v != 0 && v != 1:
		return 1
	case id == 8 && v == 0 && m[8] == 1:
		return 1
	case id == 4 && v > 2147483647:
		return 3
	case id == 5 && (v < 16384 || v > 16777215):
		return 1
	}
	m[id] = v
	return 0
}

// applied is what Apply has to answer.
func applied(s api.Settings, l []api.Setting) (api.Settings, api.Fault) {
	m := modelOf(s)
	for _, x := range l {
		if code := m.put(x.ID, x.Value); code != 0 {
			return s, api.Fault{Scope: 1, Code: code}
		}
	}
	return m.settings(), none
}

func checkApply(t *testing.T, s api.Settings, l []api.Setting) {
	t.Helper()
	want, fault := applied(s, l)
	if got, wrong := settings.Apply(s, l); got != want || wrong != fault {
		t.Fatalf("%+v %v: %+v %v, wanted %+v %v", s, l, got, wrong, want, fault)
	}
}

// edges are values at which something changes for one setting or another.
var edges = []uint32{
	0, 1, 2, 3, 255, 256, 257, 4095, 4096, 4097, 16383, 16384, 16385, 65534, 65535, 65536, 65537, 1<<24 - 2, 1<<24 - 1, 1 << 24, 1<<24 + 1,
	1<<30 + 16384, 1<<31 - 2, 1<<31 - 1, 1 << 31, 1<<31 + 1, 1<<31 + 16384, 1<<32 - 2, 1<<32 - 1,
}

func TestP9_1Begin(t *testing.T) {
	if s := settings.Begin(); s != begin {
		t.Errorf("%+v", s)
	}
	if settings.Begin().Streams != math.MaxUint32 || settings.Begin().Headers != math.MaxUint32 {
		t.Error("streams and headers aren't 2^32 - 1")
	}
}

// One setting alone, behind those at the beginning: what it makes, or what is wrong with it.
func TestP9_1ApplyOne(t *testing.T) {
	for _, x := range []struct {
		id    uint16
		value uint32
		wrong api.Fault
		want  api.Settings
	}{
		{1, 0, none, made(0, true, 4294967295, 65535, 16384, 4294967295, false)},
		{1, 4097, none, made(4097, true, 4294967295, 65535, 16384, 4294967295, false)},
		{1, 4294967295, none, made(4294967295, true, 4294967295, 65535, 16384, 4294967295, false)},
		{2, 0, none, made(4096, false, 4294967295, 65535, 16384, 4294967295, false)},
		{2, 1, none, begin},
		{2, 2, protocolFault, begin},
		{2, 256, protocolFault, begin},
		{2, 4294967295, protocolFault, begin},
		{3, 0, none, made(4096, true, 0, 65535, 16384, 4294967295, false)},
		{3, 100, none, made(4096, true, 100, 65535, 16384, 4294967295, false)},
		{3, 4294967294, none, made(4096, true, 4294967294, 65535, 16384, 4294967295, false)},
		{4, 0, none, made(4096, true, 4294967295, 0, 16384, 4294967295, false)},
		{4, 100, none, made(4096, true, 4294967295, 100, 16384, 4294967295, false)},
		{4, 2147483647, none, made(4096, true, 4294967295, 2147483647, 16384, 4294967295, false)},
		{4, 2147483648, flowFault, begin},
		{4, 4294967295, flowFault, begin},
		{5, 0, protocolFault, begin},
		{5, 16383, protocolFault, begin},
		{5, 16384, none, begin},
		{5, 16385, none, made(4096, true, 4294967295, 65535, 16385, 4294967295, false)},
		{5, 16777215, none, made(4096, true, 4294967295, 65535, 16777215, 4294967295, false)},
		{5, 16777216, protocolFault, begin},
		{5, 4294967295, protocolFault, begin},
		{6, 0, none, made(4096, true, 4294967295, 65535, 16384, 0, false)},
		{6, 4096, none, made(4096, true, 4294967295, 65535, 16384, 4096, false)},
		{8, 0, none, begin},
		{8, 1, none, made(4096, true, 4294967295, 65535, 16384, 4294967295, true)},
		{8, 2, protocolFault, begin},
		{8, 257, protocolFault, begin},
		{8, 4294967295, protocolFault, begin},
		{0, 0, none, begin},
		{7, 2, none, begin},
		{9, 1, none, begin},
		{99, 7, none, begin},
		{65535, 4294967295, none, begin},
	} {
		got, wrong := settings.Apply(begin, []api.Setting{{ID: x.id, Value: x.value}})
		if got != x.want || wrong != x.wrong {
			t.Errorf("%d: %d: %+v %v", x.id, x.value, got, wrong)
		}
	}
}

// Each number there is: those that aren't a setting's don't count, whatever their value.
func TestP9_1ApplyNumbers(t *testing.T) {
	for id := range 1 << 16 {
		for _, v := range []uint32{0, 1, 2, 16384, 1 << 31, 1<<32 - 1} {
			checkApply(t, begin, []api.Setting{{ID: uint16(id), Value: v}})
			if slices.Contains(numbers, uint16(id)) {
				continue
			}
			if got, wrong := settings.Apply(strange, []api.Setting{{ID: uint16(id), Value: v}}); got != strange || wrong != none {
				t.Fatal(id, v, got, wrong)
			}
		}
	}
}

func TestP9_1ApplyEdges(t *testing.T) {
	for _, s := range []api.Settings{begin, strange, {}} {
		for _, id := range numbers {
			for _, v := range edges {
				checkApply(t, s, []api.Setting{{ID: id, Value: v}})
			}
		}
	}
}

// What stood there ahead of a list isn't looked at, but for Connect.
func TestP9_1ApplyToAny(t *testing.T) {
	if got, wrong := settings.Apply(strange, nil); got != strange || wrong != none {
		t.Error(got, wrong)
	}
	if got, wrong := settings.Apply(api.Settings{}, []api.Setting{{ID: 3, Value: 5}}); got != (api.Settings{Streams: 5}) || wrong != none {
		t.Error(got, wrong)
	}
	want := strange
	want.Window = 5
	if got, wrong := settings.Apply(strange, []api.Setting{{ID: 4, Value: 5}}); got != want || wrong != none {
		t.Error(got, wrong)
	}
}

// Connect may become 1, at any time and again, but not 0 any more.
func TestP9_1ApplyConnect(t *testing.T) {
	on := begin
	on.Connect = true
	for _, x := range []struct {
		s      api.Settings
		values []uint32
		want   api.Settings
		wrong  api.Fault
	}{
		{begin, []uint32{0, 0}, begin, none},
		{begin, []uint32{0, 1, 1}, on, none},
		{begin, []uint32{1, 0}, begin, protocolFault},
		{begin, []uint32{1, 1, 0}, begin, protocolFault},
		{begin, []uint32{0, 1, 2}, begin, protocolFault},
		{on, nil, on, none},
		{on, []uint32{1, 1}, on, none},
		{on, []uint32{0}, on, protocolFault},
		{on, []uint32{1, 0}, on, protocolFault},
		{on, []uint32{2}, on, protocolFault},
	} {
		var l []api.Setting
		for _, v := range x.values {
			l = append(l, api.Setting{ID: 8, Value: v})
		}
		if got, wrong := settings.Apply(x.s, l); got != x.want || wrong != x.wrong {
			t.Error(x.s, x.values, got, wrong)
		}
	}
}

// Settings come one behind the other: the last one of a number counts, and the first fault.
func TestP9_1ApplyOrder(t *testing.T) {
	for _, x := range []struct {
		l     pairs
		want  api.Settings
		wrong api.Fault
	}{
		{nil, begin, none},
		{pairs{}, begin, none},
		{pairs{{4, 1}, {4, 2}, {4, 3}}, made(4096, true, 4294967295, 3, 16384, 4294967295, false), none},
		{pairs{{2, 0}, {2, 1}, {2, 0}}, made(4096, false, 4294967295, 65535, 16384, 4294967295, false), none},
		{pairs{{8, 1}, {6, 2}, {5, 16385}, {4, 3}, {3, 4}, {2, 0}, {1, 5}, {8, 1}, {7, 9}}, made(5, false, 4, 3, 16385, 2, true), none},
		{pairs{{4, 1 << 31}, {2, 2}}, begin, flowFault},
		{pairs{{2, 2}, {4, 1 << 31}}, begin, protocolFault},
		{pairs{{5, 1}, {4, 1 << 31}}, begin, protocolFault},
		{pairs{{8, 2}, {4, 1 << 31}}, begin, protocolFault},
		{pairs{{8, 1}, {8, 0}, {4, 1 << 31}}, begin, protocolFault},
		{pairs{{4, 1 << 31}, {8, 1}, {8, 0}}, begin, flowFault},
		{pairs{{1, 1}, {3, 1}, {4, 7}, {5, 16383}, {6, 1}}, begin, protocolFault},
		{pairs{{1, 1}, {2, 0}, {3, 1}, {5, 20000}, {6, 1}, {8, 1}, {4, 1<<32 - 1}}, begin, flowFault},
		{pairs{{4, 1 << 31}, {4, 5}}, begin, flowFault},
		{pairs{{7, 1 << 31}, {99, 2}, {4, 5}}, made(4096, true, 4294967295, 5, 16384, 4294967295, false), none},
	} {
		if got, wrong := settings.Apply(begin, x.l.list()); got != x.want || wrong != x.wrong {
			t.Errorf("%v: %+v %v", x.l, got, wrong)
		}
	}
}

// All rows of up to four settings, of each some that may be and some that may not.
func TestP9_1ApplyRows(t *testing.T) {
	some := pairs{{1, 0}, {2, 0}, {2, 1}, {2, 2}, {3, 9}, {4, 8}, {4, 1 << 31}, {5, 16384}, {5, 1 << 24}, {6, 7}, {7, 2}, {8, 0}, {8, 1}, {8, 2}}.list()
	var walk func(l []api.Setting)
	walk = func(l []api.Setting) {
		checkApply(t, begin, l)
		checkApply(t, strange, l)
		if len(l) == 4 {
			return
		}
		for _, x := range some {
			walk(append(slices.Clip(l), x))
		}
	}
	walk(nil)
}

// anyList is a list of any length, seldom with a fault.
func anyList(r *rand.Rand, length int) []api.Setting {
	var l []api.Setting
	for range length {
		x := api.Setting{ID: uint16(r.Intn(10)), Value: edges[r.Intn(len(edges))]}
		if r.Intn(2) == 0 {
			x.Value = r.Uint32() >> r.Intn(32)
		}
		if _, wrong := applied(begin, []api.Setting{x}); wrong != none && r.Intn(50) > 0 {
			continue
		}
		if x.ID == 8 && r.Intn(50) > 0 {
			x.Value = 1
		}
		l = append(l, x)
	}
	return l
}

func TestP9_1ApplyAny(t *testing.T) {
	r := rand.New(rand.NewSource(9))
	wrongs := 0
	for range 20000 {
		l := anyList(r, r.Intn(30))
		checkApply(t, begin, l)
		checkApply(t, strange, l)
		if _, wrong := applied(begin, l); wrong != none {
			wrongs++
		}
	}
	if wrongs < 500 || wrongs > 10000 {
		t.Error(wrongs)
	}
	checkApply(t, begin, slices.Repeat(pairs{{1, 1}, {4, 2}, {8, 1}}.list(), 100000))
}

func TestP9_1ApplyMemory(t *testing.T) {
	for _, x := range []pairs{{{1, 1}, {8, 1}, {4, 5}}, {{1, 1}, {4, 1 << 31}, {2, 2}}} {
		l, before := x.list(), x.list()
		s := begin
		settings.Apply(s, l)
		settings.New().Send(l)
		if !slices.Equal(l, before) || s != begin {
			t.Error("what is handed in is changed", l)
		}
	}
}

// choices are all settings of which each is that of one or of another.
func choices(one, other api.Settings) []api.Settings {
	l := []api.Settings{one}
	for _, id := range numbers {
		for _, s := range slices.Clone(l) {
			m := modelOf(s)
			m[id] = modelOf(other)[id]
			l = append(l, m.settings())
		}
	}
	return l
}

// told is what Tell has to answer.
func told(a, b api.Settings) []api.Setting {
	var l []api.Setting
	x, y := modelOf(a), modelOf(b)
	for _, id := range numbers {
		if x[id] != y[id] {
			l = append(l, api.Setting{ID: id, Value: y[id]})
		}
	}
	return l
}

func TestP9_1Tell(t *testing.T) {
	all := made(5, false, 4, 3, 16385, 2, true)
	for _, x := range []struct {
		a, b api.Settings
		want pairs
	}{
		{begin, begin, nil},
		{api.Settings{}, api.Settings{}, nil},
		{strange, strange, nil},
		{begin, all, pairs{{1, 5}, {2, 0}, {3, 4}, {4, 3}, {5, 16385}, {6, 2}, {8, 1}}},
		{all, begin, pairs{{1, 4096}, {2, 1}, {3, 4294967295}, {4, 65535}, {5, 16384}, {6, 4294967295}, {8, 0}}},
		{begin, api.Settings{}, pairs{{1, 0}, {2, 0}, {3, 0}, {4, 0}, {5, 0}, {6, 0}}},
		{api.Settings{}, begin, pairs{{1, 4096}, {2, 1}, {3, 4294967295}, {4, 65535}, {5, 16384}, {6, 4294967295}}},
		{begin, strange, pairs{{1, 1 << 31}, {2, 0}, {3, 0}, {4, 4294967295}, {5, 7}, {6, 3}, {8, 1}}},
		{begin, made(4096, true, 4294967295, 5, 16384, 4294967295, true), pairs{{4, 5}, {8, 1}}},
		{api.Settings{Window: 1}, api.Settings{Window: 1 << 31}, pairs{{4, 1 << 31}}},
		{api.Settings{Streams: 1}, api.Settings{Window: 1}, pairs{{3, 0}, {4, 1}}},
	} {
		if got := settings.Tell(x.a, x.b); !slices.Equal(got, x.want.list()) {
			t.Errorf("%+v, %+v: %v", x.a, x.b, got)
		}
	}
}

// Each choice of the settings that differ, told both ways.
func TestP9_1TellChoices(t *testing.T) {
	l := choices(begin, made(1<<31, false, 0, 1<<32-1, 0, 4096, true))
	if len(l) != 128 {
		t.Fatal(len(l))
	}
	for _, a := range l {
		for _, b := range l {
			if got := settings.Tell(a, b); !slices.Equal(got, told(a, b)) {
				t.Fatalf("%+v, %+v: %v", a, b, got)
			}
		}
	}
}

func TestP9_1TellMemory(t *testing.T) {
	b := api.Settings{Table: 7, Connect: true}
	want := told(begin, b)
	l := settings.Tell(begin, b)
	clear(l)
	_ = append(l[:0], make([]api.Setting, 7)...)
	if got := settings.Tell(begin, b); !slices.Equal(got, want) {
		t.Error(got)
	}
}

// twin is a side and a model of it, which keeps the lists themselves, and applies them when they are acknowledged.
type twin struct {
	t    *testing.T
	s    *settings.Side
	now  api.Settings
	sent [][]api.Setting
}

func newTwin(t *testing.T) *twin {
	w := &twin{t: t, s: settings.New(), now: begin}
	w.check()
	return w
}

func (w *twin) last() api.Settings {
	s := w.now
	for _, l := range w.sent {
		s, _ = applied(s, l)
	}
	return s
}

func (w *twin) check() {
	w.t.Helper()
	if w.s.Now() != w.now || w.s.Last() != w.last() || w.s.Waits() != len(w.sent) {
		w.t.Fatalf("now %+v, last %+v, %d wait; wanted %+v, %+v, %d", w.s.Now(), w.s.Last(), w.s.Waits(), w.now, w.last(), len(w.sent))
	}
}

func (w *twin) send(l []api.Setting) {
	w.t.Helper()
	want := none
	if _, wrong := applied(w.last(), l); wrong != none {
		want = protocolFault
	} else {
		w.sent = append(w.sent, l)
	}
	if got := w.s.Send(slices.Clone(l)); got != want {
		w.t.Fatalf("Send(%v): %v, wanted %v", l, got, want)
	}
	w.check()
}

func (w *twin) ack() {
	w.t.Helper()
	want := protocolFault
	if len(w.sent) > 0 {
		want = none
		w.now, _ = applied(w.now, w.sent[0])
		w.sent = w.sent[1:]
	}
	if got, wrong := w.s.Ack(); got != w.now || wrong != want {
		w.t.Fatalf("Ack(): %+v %v, wanted %+v %v", got, wrong, w.now, want)
	}
	w.check()
}

func TestP9_1Side(t *testing.T) {
	s := settings.New()
	if s == nil || s.Now() != begin || s.Last() != begin || s.Waits() != 0 {
		t.Fatal(s)
	}
	one, two := begin, begin
	one.Table, two.Table = 1, 1
	two.Window = 2
	if wrong := s.Send(pairs{{1, 1}}.list()); wrong != none || s.Waits() != 1 || s.Now() != begin || s.Last() != one {
		t.Error(wrong, s.Waits(), s.Now(), s.Last())
	}
	if wrong := s.Send(pairs{{4, 2}}.list()); wrong != none || s.Waits() != 2 || s.Now() != begin || s.Last() != two {
		t.Error(wrong, s.Waits(), s.Now(), s.Last())
	}
	if got, wrong := s.Ack(); got != one || wrong != none || s.Now() != one || s.Last() != two || s.Waits() != 1 {
		t.Error(got, wrong)
	}
	if got, wrong := s.Ack(); got != two || wrong != none || s.Now() != two || s.Last() != two || s.Waits() != 0 {
		t.Error(got, wrong)
	}
	for range 2 {
		if got, wrong := s.Ack(); got != two || wrong != protocolFault || s.Now() != two || s.Last() != two || s.Waits() != 0 {
			t.Error(got, wrong)
		}
	}
}

// An acknowledgement that comes ahead of any list.
func TestP9_1AckOfNone(t *testing.T) {
	s := settings.New()
	if got, wrong := s.Ack(); got != begin || wrong != protocolFault {
		t.Error(got, wrong)
	}
	if wrong := s.Send(pairs{{4, 2}}.list()); wrong != none || s.Waits() != 1 {
		t.Error(wrong)
	}
	if got, wrong := s.Ack(); got.Window != 2 || wrong != none {
		t.Error(got, wrong)
	}
}

// A list without settings waits, too, and so does one that changes nothing.
func TestP9_1SendOfNothing(t *testing.T) {
	w := newTwin(t)
	w.send(nil)
	w.send([]api.Setting{})
	w.send(pairs{{7, 1}, {99, 2}}.list())
	w.send(pairs{{2, 1}, {8, 0}}.list())
	if w.s.Waits() != 4 {
		t.Error(w.s.Waits())
	}
	for range 5 {
		w.ack()
	}
}

// A list that may not be applied isn't sent; its fault is always the same one, that of a window too.
func TestP9_1SendWrong(t *testing.T) {
	for _, x := range []pairs{
		{{2, 2}}, {{4, 1 << 31}}, {{5, 16383}}, {{5, 1 << 24}}, {{8, 2}}, {{8, 1}, {8, 0}}, {{4, 1 << 31}, {2, 2}}, {{2, 2}, {4, 1 << 31}}, {{1, 1}, {3, 1}, {4, 1<<32 - 1}},
	} {
		s := settings.New()
		for i := range 3 {
			before := s.Last()
			if wrong := s.Send(x.list()); wrong != protocolFault || s.Waits() != i || s.Last() != before || s.Now() != begin {
				t.Error(x, wrong, s.Waits())
			}
			s.Send(pairs{{6, uint32(i)}}.list())
		}
	}
}

// Lists are held against the last one that was sent, whether it is in force or not.
func TestP9_1SendBehindOthers(t *testing.T) {
	on, off := pairs{{8, 1}}.list(), pairs{{8, 0}}.list()
	for _, acks := range []int{0, 1, 2} {
		w := newTwin(t)
		w.send(off)
		w.send(on)
		for range acks {
			w.ack()
		}
		w.send(off)
		w.send(on)
		if w.s.Waits() != 3-acks || !w.s.Last().Connect || w.s.Now().Connect != (acks == 2) {
			t.Error(acks, w.s.Waits())
		}
		for range 5 {
			w.ack()
			w.send(off)
		}
	}
}

// What is handed in isn't kept.
func TestP9_1SendKeepsNothing(t *testing.T) {
	s := settings.New()
	l := pairs{{1, 1}, {4, 2}}.list()
	s.Send(l)
	l[0], l[1] = api.Setting{ID: 2, Value: 2}, api.Setting{ID: 4, Value: 1 << 31}
	want := begin
	want.Table, want.Window = 1, 2
	if s.Last() != want {
		t.Error(s.Last())
	}
	if got, wrong := s.Ack(); got != want || wrong != none {
		t.Error(got, wrong)
	}
}

// What one side is told, another one doesn't know.
func TestP9_1Apart(t *testing.T) {
	a, b := settings.New(), settings.New()
	a.Send(pairs{{1, 1}}.list())
	b.Send(pairs{{1, 2}}.list())
	b.Send(pairs{{1, 3}}.list())
	b.Ack()
	if a.Now() != begin || a.Last().Table != 1 || a.Waits() != 1 || b.Now().Table != 2 || b.Last().Table != 3 || b.Waits() != 1 {
		t.Error(a, b)
	}
	if c := settings.New(); c.Now() != begin || c.Last() != begin || c.Waits() != 0 || settings.Begin() != begin {
		t.Error(c)
	}
}

func TestP9_1Nil(t *testing.T) {
	var s *settings.Side
	for range 2 {
		for _, x := range []pairs{nil, {}, {{4, 5}}, {{4, 1 << 31}}} {
			if wrong := s.Send(x.list()); wrong != internalFault {
				t.Error(x, wrong)
			}
		}
		if got, wrong := s.Ack(); got != begin || wrong != internalFault {
			t.Error(got, wrong)
		}
		if s.Now() != begin || s.Last() != begin || s.Waits() != 0 {
			t.Error(s.Now(), s.Last(), s.Waits())
		}
	}
}

// All rows of up to six calls.
func TestP9_1Rows(t *testing.T) {
	lists := []pairs{nil, {{4, 5}, {1, 6}}, {{4, 7}}, {{8, 1}}, {{8, 0}, {3, 9}}, {{2, 2}}, {{4, 1 << 31}}}
	var walk func(row []int)
	walk = func(row []int) {
		w := newTwin(t)
		for _, call := range row {
			if call == len(lists) {
				w.ack()
			} else {
				w.send(lists[call].list())
			}
		}
		if len(row) == 6 {
			return
		}
		for call := range len(lists) + 1 {
			walk(append(slices.Clip(row), call))
		}
	}
	walk(nil)
}

func TestP9_1LongRows(t *testing.T) {
	r := rand.New(rand.NewSource(91))
	for range 100 {
		w := newTwin(t)
		for range 300 {
			if len(w.sent) > 20 || r.Intn(2) == 0 {
				w.ack()
			} else {
				w.send(anyList(r, r.Intn(8)))
			}
		}
	}
}

// Many lists wait, and are acknowledged in their order.
func TestP9_1Many(t *testing.T) {
	const many = 1 << 17
	s := settings.New()
	for i := range uint32(many) {
		if wrong := s.Send(pairs{{3, i}}.list()); wrong != none || s.Last().Streams != i {
			t.Fatal(i, wrong)
		}
	}
	for i := range uint32(many) {
		if s.Waits() != many-int(i) {
			t.Fatal(i, s.Waits())
		}
		if got, wrong := s.Ack(); got.Streams != i || wrong != none {
			t.Fatal(i, got, wrong)
		}
	}
	if _, wrong := s.Ack(); wrong != protocolFault || s.Waits() != 0 {
		t.Error(wrong)
	}
}

// held is how much memory is in use.
func held() uint64 {
	runtime.GC()
	var s runtime.MemStats
	runtime.ReadMemStats(&s)
	return s.HeapAlloc
}

// What was acknowledged isn't held.
func TestP9_1HoldsWhatWaits(t *testing.T) {
	const great = 1 << 20
	s := settings.New()
	before := held()
	for range great {
		s.Send(pairs{{4, 5}}.list())
		s.Ack()
	}
	if after := held(); after > before+great {
		t.Error(before, after)
	}
	for range great {
		s.Send(nil)
	}
	for range great {
		s.Ack()
	}
	if after := held(); after > before+great {
		t.Error(before, after)
	}
	if s.Now().Window != 5 || s.Waits() != 0 {
		t.Error(s.Now(), s.Waits())
	}
}

// What is told of settings makes them of the others, if any list does, and no shorter one does.
func checkTold(t *testing.T, a, b api.Settings) {
	t.Helper()
	l := settings.Tell(a, b)
	if got, wrong := settings.Apply(a, l); got != b || wrong != none {
		t.Fatalf("%+v, %+v: %v makes %+v, %v", a, b, l, got, wrong)
	}
	for i := range l {
		short := slices.Delete(slices.Clone(l), i, i+1)
		if got, _ := settings.Apply(a, short); got == b {
			t.Fatalf("%+v, %+v: %v, though %v does", a, b, l, short)
		}
	}
	s := settings.New()
	if s.Send(settings.Tell(begin, a)) != none || s.Send(l) != none || s.Last() != b {
		t.Fatalf("%+v, %+v: %v isn't sent", a, b, l)
	}
}

func TestP9_2Choices(t *testing.T) {
	for _, other := range []api.Settings{
		made(0, false, 0, 0, 1<<24-1, 0, true),
		made(1<<32-1, false, 1, 1<<31-1, 16385, 1<<32-2, true),
	} {
		l := choices(begin, other)
		for _, a := range l {
			for _, b := range l {
				if !a.Connect || b.Connect {
					checkTold(t, a, b)
				}
			}
		}
	}
}

// Whatever lists made of the settings at the beginning, is told.
func TestP9_2Any(t *testing.T) {
	r := rand.New(rand.NewSource(92))
	for range 5000 {
		a, _ := settings.Apply(begin, anyList(r, r.Intn(12)))
		b, _ := settings.Apply(a, anyList(r, r.Intn(12)))
		checkTold(t, a, b)
		checkTold(t, begin, b)
	}
}

// Where no list makes settings of others, what is told is a fault, but no less is told.
func TestP9_2NoList(t *testing.T) {
	on, off := begin, begin
	on.Connect, off.Table = true, 1
	if got, wrong := settings.Apply(on, settings.Tell(on, off)); got != on || wrong != protocolFault {
		t.Error(got, wrong)
	}
	for _, x := range []struct {
		change func(s *api.Settings)
		wrong  api.Fault
	}{
		{func(s *api.Settings) { s.Window = 1 << 31 }, flowFault},
		{func(s *api.Settings) { s.Frame = 16383 }, protocolFault},
		{func(s *api.Settings) { s.Frame = 1 << 24 }, protocolFault},
	} {
		b := begin
		x.change(&b)
		if got, wrong := settings.Apply(begin, settings.Tell(begin, b)); got != begin || wrong != x.wrong {
			t.Error(b, got, wrong)
		}
		if got, wrong := settings.Apply(b, settings.Tell(b, begin)); got != begin || wrong != none {
			t.Error(b, got, wrong)
		}
	}
}
