package conn

import (
	"maps"
	"slices"

	"louver/api"
	"louver/stream"
	"louver/window"
)

// known is a stream that is known.
type known struct {
	number      uint32
	state       uint8
	meter       *window.Meter // nil of one that is over
	ends        bool          // its end was told as DATA; it may wait
	sentHeaders bool          // this side sent HEADERS of it
	gotHeaders  bool          // a block of it came to this side
}

// nextNumber is that of the stream that a client opens next.
func (c *Conn) nextNumber() uint32 {
	if c.last == 0 {
		return 1
	}
	return c.last + 2
}

// wasOpened tells whether a stream was opened once, or passed over by one that was: clients alone open streams.
func (c *Conn) wasOpened(n uint32) bool {
	return n%2 == 1 && n <= c.last
}

// add makes a stream known that is live from now on.
func (c *Conn) add(n uint32, state uint8) *known {
	s := &known{number: n, state: state, meter: window.Of(c.window, true)}
	c.streams[n] = s
	c.last = n
	c.live++
	c.ring.Open(n, int64(c.peer.Window))
	return s
}

// move gives a live stream another state. If it isn't live any more, nothing of it waits, and what was told of it counts as used up.
func (c *Conn) move(s *known, state uint8) {
	s.state = state
	if stream.Live(state) {
		return
	}
	c.live--
	c.ring.Drop(s.number)
	c.useUp(s.meter.Owed())
	s.meter = nil
	c.over = append(c.over, s.number)
	if len(c.over) > api.MostClosed {
		delete(c.streams, c.over[0])
		c.over = c.over[1:]
	}
}

// reset resets a live stream.
func (c *Conn) reset(s *known, code uint32) {
	c.reply(api.Frame{Type: api.ResetFrame, Stream: s.number, Code: code})
	state, _ := stream.Send(s.state, api.ResetFrame, false)
	c.move(s, state)
}

// useUp tells the connection's meter alone of bytes that were used up.
func (c *Conn) useUp(used int) {
	c.sendWindow(0, c.meter.Use(used))
}

// useUpOf tells both meters of bytes of a stream that were used up: of so many at most as weren't by then, as the connection's meter knows no streams.
func (c *Conn) useUpOf(s *known, used int) {
	used = min(used, s.meter.Owed())
	c.useUp(used)
	told := s.meter.Use(used)
	if _, ok := stream.Send(s.state, api.WindowFrame, false); ok {
		c.sendWindow(s.number, told)
	}
}

// liveAbove are the live streams with greater numbers than this one, by rising numbers.
func (c *Conn) liveAbove(n uint32) []*known {
	var l []*known
	for _, k := range slices.Sorted(maps.Keys(c.streams)) {
		if s := c.streams[k]; k > n && stream.Live(s.state) {
			l = append(l, s)
		}
	}
	return l
}
