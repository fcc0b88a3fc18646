package conn_test

import (
	"fmt"
	"math/rand"
	"slices"
	"strings"
	"testing"

	"louver/api"
	"louver/block"
	"louver/frame"
	"louver/hpack"
	"louver/settings"
	"louver/stream"
	"louver/turns"
	"louver/window"
)

// A model says what a side does, from the chapter's words, by the lines of a rig. It forgets nothing, and counts all when it is asked.
type model struct {
	server   bool
	size     uint32
	begun    bool
	away     bool
	peerAway bool
	gone     bool
	acks     int // that are awaited
	greatest uint32
	overs    int // how many streams are over by now
	streams  map[uint32]*modelStream
	peer     api.Settings
	gather   *block.Gatherer
	dec      *hpack.Decoder
	meter    *window.Meter
	ring     *turns.Ring
	row      []string
	replies  int
	told     []string
}

type modelStream struct {
	state    uint8
	over     int // the how manieth it was that was over
	meter    *window.Meter
	told     int // bytes that weren't used up
	sent     int // blocks
	got      int
	endWaits bool
}

func newModel(server bool, size uint32) *model {
	m := &model{server: server, size: size, acks: 1, streams: map[uint32]*modelStream{}, peer: settings.Begin(), gather: block.New(), dec: hpack.NewDecoder(4096),
		meter: window.Of(65535, false), ring: turns.New(65535), row: []string{"SETTINGS 3=16 6=4096 8=1"}}
	if !server {
		m.row = []string{fmt.Sprintf("SETTINGS 2=0 4=%d 6=4096", size)}
	} else {
		m.size = 65535
	}
	return m
}

func (m *model) state(n uint32) uint8 {
	s := m.streams[n]
	if s != nil && (s.over == 0 || s.over > m.overs-64) {
		return s.state
	}
	if n%2 == 1 && n <= m.greatest {
		return api.ResetHere
	}
	return api.Idle
}

func (m *model) isKnown(n uint32) bool {
	s := m.streams[n]
	return s != nil && (s.over == 0 || s.over > m.overs-64)
}

func (m *model) isLive(n uint32) bool {
	return stream.Live(m.state(n))
}

func (m *model) live() int {
	n := 0
	for _, s := range m.streams {
		if s.over == 0 {
			n++
		}
	}
	return n
}

func (m *model) quiet() bool {
	return len(m.row) == 0 && (m.gone || !m.ring.Can())
}

func (m *model) send(format string, args ...any) {
	m.row = append(m.row, fmt.Sprintf(format, args...))
}

func (m *model) reply(format string, args ...any) {
	m.replies++
	m.send(format, args...)
}

func (m *model) tell(format string, args ...any) {
	m.told = append(m.told, fmt.Sprintf(format, args...))
}

// used tells the connection's meter.
func (m *model) used(n int) {
	if told := m.meter.Use(n); told > 0 {
		m.reply("WINDOW 0 %d", told)
	}
}

func (m *model) begin(n uint32, state uint8) *modelStream {
	s := &modelStream{state: state, meter: window.Of(m.size, true)}
	m.streams[n], m.greatest = s, n
	m.ring.Open(n, int64(m.peer.Window))
	return s
}

func (m *model) put(n uint32, state uint8) {
	s := m.streams[n]
	s.state = state
	if stream.Live(state) || s.over > 0 {
		return
	}
	m.overs++
	s.over = m.overs
	m.ring.Drop(n)
	m.used(s.told)
	s.told = 0
}

func (m *model) reset(n, code uint32) {
	m.reply("RST %d %d", n, code)
	m.put(n, api.ResetHere)
}

func (m *model) fail(code uint32) {
	last := m.greatest
	if !m.server {
		last = 0
	}
	m.send("GOAWAY %d %d", last, code)
	m.gone = true
	m.tell("fault %d", code)
}

// meet answers a fault, and tells whether there was one.
func (m *model) meet(n uint32, wrong api.Fault) bool {
	switch {
	case wrong.Scope == api.NoFault:
		return false
	case wrong.Scope == api.ConnFault || m.state(n) == api.Idle:
		m.fail(wrong.Code)
	case m.isLive(n):
		m.reset(n, wrong.Code)
		m.tell("fault %d of %d", wrong.Code, n)
	}
	return true
}

// come is what is told by a frame.
func (m *model) come(b []byte) []string {
	m.told = nil
	if m.gone {
		return nil
	}
	f, wrong := frame.Get(b)
	if !m.meet(f.Stream, wrong) {
		m.frame(f)
	}
	if !m.gone && m.replies > 64 {
		m.fail(api.Calm)
	}
	return m.told
}

func connFault(code uint32) api.Fault { return api.Fault{Scope: api.ConnFault, Code: code} }

func (m *model) frame(f api.Frame) {
	first := !m.begun
	m.begun = true
	if first && (f.Type != api.SettingsFrame || f.Flags&1 != 0) {
		m.fail(api.ProtocolError)
		return
	}
	w, whole, wrong := m.gather.Take(f)
	if m.meet(0, wrong) {
		return
	}
	if whole {
		l, wrong := m.dec.Get(w.Block)
		if !m.meet(0, wrong) {
			m.headers(w.Stream, fieldsText(l), w.End)
		}
		return
	}
	end := f.Flags&1 != 0
	switch f.Type {
	case api.DataFrame:
		m.data(f, end)
	case api.ResetFrame:
		live := m.isLive(f.Stream)
		if state, wrong := stream.Come(m.state(f.Stream), f.Type, false); !m.meet(f.Stream, wrong) && live {
			m.tell("reset %d %d", f.Stream, f.Code)
			m.put(f.Stream, state)
		}
	case api.SettingsFrame:
		m.settings(f, end)
	case api.PushFrame:
		m.fail(api.ProtocolError)
	case api.PingFrame:
		if !end {
			m.reply("PING %s ack", f.Data)
		}
	case api.GoAwayFrame:
		m.peerAway = true
		m.tell("away %d %d", f.Other, f.Code)
		for n := f.Other + 1; !m.server && n <= m.greatest; n++ {
			if m.isLive(n) {
				m.tell("reset %d 7", n)
				m.put(n, api.ResetPeer)
			}
		}
	case api.WindowFrame:
		if f.Stream != 0 {
			if _, wrong := stream.Come(m.state(f.Stream), f.Type, false); m.meet(f.Stream, wrong) {
				return
			}
		}
		m.meet(f.Stream, m.ring.Grow(f.Stream, f.Window))
	}
}

func (m *model) settings(f api.Frame, ack bool) {
	if ack {
		m.acks--
		if m.acks < 0 {
			m.fail(api.ProtocolError)
		}
		return
	}
	now, wrong := settings.Apply(m.peer, f.Settings)
	if m.meet(0, wrong) {
		return
	}
	from := m.peer.Window
	m.peer = now
	if m.meet(0, m.ring.Shift(from, now.Window)) {
		return
	}
	m.reply("SETTINGS ack")
	m.tell("settings")
}

func (m *model) headers(n uint32, fields string, end bool) {
	told := fmt.Sprintf("headers %d%s%s", n, fields, endText(end))
	if m.isKnown(n) {
		s, live := m.streams[n], m.isLive(n)
		s.got++
		if !m.server && live && s.got == 1 && !end {
			m.tell("%s", told)
			return
		}
		state, wrong := stream.Come(s.state, api.HeadersFrame, end)
		if !m.meet(n, wrong) && live {
			m.tell("%s", told)
			m.put(n, state)
		}
		return
	}
	opened := n%2 == 1 && n <= m.greatest
	switch {
	case !m.server && opened:
	case !m.server || n%2 == 0:
		m.fail(api.ProtocolError)
	case opened:
		m.fail(api.StreamClosed)
	default:
		full := m.live() >= 16
		state := uint8(api.Open)
		if end {
			state = api.EndedPeer
		}
		m.begin(n, state)
		if m.away {
			m.put(n, api.ResetHere)
		} else if full {
			m.reset(n, api.RefusedStream)
		} else {
			m.tell("%s", told)
		}
	}
}

func (m *model) data(f api.Frame, end bool) {
	n, all := f.Stream, len(f.Data)
	if f.Flags&api.Padded != 0 {
		all += 1 + f.Pad
	}
	if m.meet(0, m.meter.Come(all)) {
		return
	}
	live := m.isLive(n)
	state, wrong := stream.Come(m.state(n), f.Type, end)
	if live && wrong.Scope == api.NoFault {
		wrong = m.streams[n].meter.Come(all)
	}
	if m.meet(n, wrong) || !live {
		if !m.gone {
			m.used(all)
		}
		return
	}
	m.tell("data %d %s%s", n, dataText(f.Data), endText(end))
	s := m.streams[n]
	s.told += len(f.Data)
	if !stream.Live(state) {
		s.told += all - len(f.Data)
		m.put(n, state)
		return
	}
	s.state = state
	m.used(all - len(f.Data))
	m.grow(n, s.meter.Use(all-len(f.Data)))
}

func (m *model) grow(n, told uint32) {
	if told > 0 && m.streams[n].state != api.EndedPeer {
		m.reply("WINDOW %d %d", n, told)
	}
}

// drain is all that is sent.
func (m *model) drain() []string {
	var l []string
	for {
		l = append(l, m.row...)
		m.row, m.replies = nil, 0
		if m.gone {
			return l
		}
		n, b, end, ok := m.ring.Next(16384)
		if !ok {
			return l
		}
		m.send("DATA %d %s%s", n, dataText(b), endText(end))
		if end {
			state, _ := stream.Send(m.streams[n].state, api.DataFrame, true)
			m.put(n, state)
		}
	}
}

// call is what a call answers.
func (m *model) call(t *testing.T, words []string) string {
	n := uint32(0)
	if len(words) > 1 && words[0] != "Open" {
		n = uint32(number(t, words[1]))
	}
	end := words[len(words)-1] == "end"
	switch words[0] {
	case "Open":
		return m.open(strings.TrimSuffix(" "+strings.Join(words[1:], " "), " end"), end)
	case "Answer":
		fields := strings.TrimSuffix(" "+strings.Join(words[2:], " "), " end")
		return m.answer(n, fields, end)
	case "Data":
		return m.putData(n, dataOf(t, words[2]), end)
	case "Use":
		if used := max(0, number(t, words[2])); !m.gone && m.isLive(n) {
			s := m.streams[n]
			used = min(used, s.told)
			s.told -= used
			m.used(used)
			m.grow(n, s.meter.Use(used))
		}
	case "Reset":
		switch {
		case m.gone:
			return "ErrShut"
		case !m.isLive(n):
			return "ErrState"
		}
		m.reset(n, uint32(number(t, words[2])))
		return "OK"
	case "Away":
		if !m.gone && !m.away {
			last := m.greatest
			if !m.server {
				last = 0
			}
			m.away = true
			m.send("GOAWAY %d %d", last, n)
		}
	}
	return ""
}

func (m *model) open(fields string, end bool) string {
	switch {
	case m.server:
		return "0 ErrKind"
	case m.gone || m.away || m.peerAway:
		return "0 ErrShut"
	case !m.begun || uint32(m.live()) >= m.peer.Streams:
		return "0 ErrFull"
	}
	n := m.greatest + 2
	if m.greatest == 0 {
		n = 1
	}
	state := uint8(api.Open)
	if end {
		state = api.EndedHere
	}
	m.begin(n, state).sent++
	m.send("HEADERS %d%s%s", n, strings.TrimSuffix(fields, " "), endText(end))
	return fmt.Sprint(n, " OK")
}

func (m *model) answer(n uint32, fields string, end bool) string {
	if m.gone {
		return "ErrShut"
	}
	if !m.isLive(n) || m.state(n) == api.EndedHere {
		return "ErrState"
	}
	s := m.streams[n]
	if m.ring.Waits(n) > 0 || s.endWaits || s.sent > 0 && !end {
		return "ErrState"
	}
	s.sent++
	m.send("HEADERS %d%s%s", n, strings.TrimSuffix(fields, " "), endText(end))
	if end {
		next := map[uint8]uint8{api.Open: api.EndedHere, api.EndedPeer: api.Over}
		m.put(n, next[s.state])
	}
	return "OK"
}

func (m *model) putData(n uint32, b []byte, end bool) string {
	if m.gone {
		return "ErrShut"
	}
	if !m.isLive(n) || m.state(n) == api.EndedHere || m.streams[n].endWaits {
		return "ErrState"
	}
	if m.ring.All()+len(b) > 65536 {
		return "ErrFull"
	}
	m.ring.Put(n, b, end)
	m.streams[n].endWaits = end
	return "OK"
}

// A chooser chooses what is done next.
type chooser struct {
	*rand.Rand
	m    *model
	part uint32 // the stream of a block that is begun, or 0
	wild bool   // it does what is wrong, too
	lazy bool   // it takes what is sent, and uses up what is told, rarely
	stay bool   // it goes away on neither side
}

// pick is one of words.
func (c *chooser) pick(words ...string) string {
	return words[c.Intn(len(words))]
}

// stream is any stream, mostly one that is live.
func (c *chooser) stream() uint32 {
	var l []uint32
	for n, s := range c.m.streams {
		if s.over == 0 || c.wild && c.Intn(8) == 0 {
			l = append(l, n)
		}
	}
	slices.Sort(l)
	if len(l) == 0 || c.wild && c.Intn(300) == 0 {
		return uint32(c.Intn(int(c.m.greatest) + 4))
	}
	return l[c.Intn(len(l))]
}

func (c *chooser) fields() string {
	return c.pick("", " a=b", " :method=CONNECT a=b", " !c=d e=f", " x="+fmt.Sprint(c.Intn(1000)), " y=*300")
}

func (c *chooser) end(among int) string {
	return endText(c.Intn(among) == 0)
}

func (c *chooser) bytes() string {
	switch c.Intn(8) {
	case 0:
		return "-"
	case 1:
		return c.pick("*16384", "*10000", "*5000")
	}
	return fmt.Sprint("*", 1+c.Intn(30))
}

// line is what is done next.
func (c *chooser) line() string {
	if c.part != 0 && (!c.wild || c.Intn(20) > 0) {
		n := c.part
		if c.Intn(3) == 0 {
			return fmt.Sprint("> MORE ", n, c.fields(), " part")
		}
		c.part = 0
		return fmt.Sprint("> MORE ", n, c.fields())
	}
	if c.m.live() == 0 && (!c.wild || c.Intn(20) > 0) {
		return c.begin()
	}
	switch c.Intn(20) {
	case 0, 1, 2, 3, 4, 5, 6, 7:
		line := c.call()
		if c.lazy && strings.HasPrefix(line, "Use") {
			break
		}
		return line
	case 8, 9:
		if c.lazy && c.Intn(20) > 0 {
			break
		}
		return "<"
	case 10:
		if c.wild {
			return "> " + c.wrongFrame()
		}
	}
	return "> " + c.frame()
}

// begin is what is done where no stream is live: frames of streams would be wrong.
func (c *chooser) begin() string {
	switch {
	case c.Intn(4) == 0:
		return c.pick("> PING ABCDEFGH ack", "> PING abcdefgh", "> PRIORITY 5", "> WINDOW 0 100")
	case c.m.server:
		return "> " + c.opening()
	}
	return "Open" + c.fields() + c.end(4)
}

func (c *chooser) call() string {
	switch c.Intn(20) {
	case 0, 1, 2:
		return "Open" + c.fields() + c.end(4)
	case 3, 4, 5:
		return fmt.Sprint("Answer ", c.stream(), c.fields(), c.end(2))
	case 6, 7, 8, 9, 10, 11:
		return fmt.Sprint("Data ", c.stream(), " ", c.bytes(), c.end(5))
	case 12, 13, 14, 15, 16:
		return fmt.Sprint("Use ", c.stream(), " ", c.pick("1", "5", "20", "3000", "40000", "-1", "0"))
	case 17, 18:
		return fmt.Sprint("Reset ", c.stream(), " ", c.Intn(12))
	}
	if c.Intn(10) == 0 && !c.stay {
		return fmt.Sprint("Away ", c.Intn(12))
	}
	return fmt.Sprint("Data ", c.stream(), " - end")
}

// frame is one that may be, mostly.
func (c *chooser) frame() string {
	switch c.Intn(20) {
	case 0, 1, 2, 3:
		if c.m.server {
			return c.opening()
		}
		return fmt.Sprint("HEADERS ", c.stream(), c.fields(), c.end(2))
	case 4, 5:
		return fmt.Sprint("HEADERS ", c.stream(), c.fields(), " end")
	case 6, 7, 8, 9, 10, 11:
		return fmt.Sprint("DATA ", c.stream(), " ", c.pick(c.bytes(), c.bytes(), c.bytes(), "*5 pad=0", "*3 pad=7", "- pad=255"), c.end(6))
	case 12, 13:
		return fmt.Sprint("RST ", c.stream(), " ", c.Intn(12))
	case 14:
		return fmt.Sprint("WINDOW ", c.stream(), " ", 1+c.Intn(50000))
	case 15:
		return fmt.Sprint("WINDOW 0 ", 1+c.Intn(50000))
	case 16:
		return c.pick("SETTINGS", "SETTINGS 1=0", "SETTINGS 1=100", "SETTINGS 1=4096", "SETTINGS 3=5", "SETTINGS 3=20", "SETTINGS 4=0", "SETTINGS 4=10", "SETTINGS 4=70000", "SETTINGS 5=20000 6=3")
	case 17:
		return c.pick("PING abcdefgh", "PING ABCDEFGH ack")
	case 18:
		return c.pick(fmt.Sprint("PRIORITY ", 1+c.Intn(9)), fmt.Sprint("TYPE 77 ", c.Intn(9)))
	}
	if c.Intn(8) == 0 && !c.stay {
		return fmt.Sprint("GOAWAY ", c.Intn(9), " ", c.Intn(12))
	}
	return "PING 01234567"
}

// opening opens a stream.
func (c *chooser) opening() string {
	n := c.m.greatest + 2
	if c.m.greatest == 0 || c.Intn(20) == 0 {
		n |= 1
		n += 2 * uint32(c.Intn(2))
	}
	if c.Intn(10) == 0 {
		c.part = n
		return fmt.Sprint("HEADERS ", n, c.fields(), c.end(3), " part")
	}
	return fmt.Sprint("HEADERS ", n, c.fields(), c.end(3))
}

// wrongFrame is one that mostly is wrong.
func (c *chooser) wrongFrame() string {
	n := c.stream()
	switch c.Intn(40) {
	case 0:
		return "SETTINGS ack"
	case 1:
		return c.pick("SETTINGS 4=2147483648", "SETTINGS 2=2", "SETTINGS 4=2147483647")
	case 2:
		return fmt.Sprint("PUSH ", n|1, " 2")
	case 3:
		return fmt.Sprint("MORE ", n|1, " a=b")
	case 4:
		return fmt.Sprint("WINDOW 0 ", 1<<31-1)
	case 5:
		return fmt.Sprint("HEADERS ", n|1, " hex:", c.pick("80", "be", "00", "ff"))
	case 6:
		return fmt.Sprint("HEADERS ", n+uint32(c.Intn(2)), " a=b")
	}
	switch c.Intn(6) {
	case 0:
		return fmt.Sprint("WINDOW ", n, " ", 1<<31-1)
	case 1:
		return fmt.Sprintf("RAW 000004 08 00 %08x 00000000", n|1)
	case 2:
		return fmt.Sprintf("RAW 000003 02 00 %08x 000000", n|1)
	case 3:
		return fmt.Sprint("RST ", n|1, " 3")
	case 4:
		return fmt.Sprint("HEADERS ", n|1, " a=b", c.end(2))
	}
	return fmt.Sprint("DATA ", n|1, " ", c.bytes(), c.end(2))
}

// isFrame tells whether a line's frame may be put: DATA and others of the stream 0 may, too.
func isFrame(line string) bool {
	return strings.HasPrefix(line, "> ")
}

// same holds a side against the model.
func (m *model) same(t *testing.T, r *rig, done []string) {
	t.Helper()
	bad := func(what string, got, want any) {
		t.Fatalf("%s: %v, wanted %v behind\n%s", what, got, want, strings.Join(done, "\n"))
	}
	if r.c.Gone() != m.gone {
		bad("Gone", r.c.Gone(), m.gone)
	}
	if r.c.Live() != m.live() {
		bad("Live", r.c.Live(), m.live())
	}
	if r.c.Quiet() != m.quiet() {
		bad("Quiet", r.c.Quiet(), m.quiet())
	}
	if r.c.Peer() != m.peer {
		bad("Peer", r.c.Peer(), m.peer)
	}
	for n := uint32(0); n <= m.greatest+3; n++ {
		if got := r.c.State(n); got != m.state(n) {
			bad(fmt.Sprint("State ", n), stateText(got), stateText(m.state(n)))
		}
		if got := r.c.Waits(n); got != m.ring.Waits(n) {
			bad(fmt.Sprint("Waits ", n), got, m.ring.Waits(n))
		}
	}
}

// walk does any lines with a side and with the model.
func walk(t *testing.T, server bool, size uint32, c *chooser, steps int) {
	t.Helper()
	m := newModel(server, size)
	c.m, c.part = m, 0
	r := newRig(t, server, size)
	if server {
		r.feed([]byte("PRI * HTTP/2.0\r\n\r\nSM\r\n\r\n"))
	} else {
		r.preface()
	}
	done := []string{fmt.Sprintf("server %v, %d", server, size)}
	for i := range steps {
		line := c.line()
		if i == 0 && c.Intn(50) > 0 {
			line = "> SETTINGS 3=16 8=1"
		}
		done = append(done, line)
		var got, want string
		switch {
		case isFrame(line):
			b := r.bytes(line[2:])
			got, want = fmt.Sprintf("%q", r.feed(b)), fmt.Sprintf("%q", m.come(b))
		case line == "<":
			got, want = fmt.Sprintf("%q", r.sent()), fmt.Sprintf("%q", m.drain())
		default:
			words := strings.Fields(line)
			got, want = r.call(words), m.call(t, words)
		}
		if got != want {
			t.Fatalf("%s\nwanted %s behind\n%s", got, want, strings.Join(done, "\n"))
		}
		m.same(t, r, done)
		if m.gone {
			steps = min(steps, i+4)
		}
		if i >= steps {
			break
		}
	}
	if got, want := fmt.Sprintf("%q", r.sent()), fmt.Sprintf("%q", m.drain()); got != want {
		t.Fatalf("%s\nwanted %s behind\n%s", got, want, strings.Join(done, "\n"))
	}
}

// Any rows of calls and frames, of both sides, against the model.
func TestP14_1Model(t *testing.T) {
	for seed := range int64(3000) {
		c := &chooser{Rand: rand.New(rand.NewSource(seed)), wild: seed%4 != 0, lazy: seed%5 == 0}
		size := []uint32{65535, 100, 20000, 0}[c.Intn(4)]
		walk(t, seed%2 == 0, size, c, 150)
	}
}

// Long rows, in which more streams are over than are known.
func TestP14_1ModelLong(t *testing.T) {
	for seed := range int64(40) {
		c := &chooser{Rand: rand.New(rand.NewSource(seed)), stay: seed%4 > 0}
		walk(t, seed%2 == 0, 65535, c, 2000)
	}
}
