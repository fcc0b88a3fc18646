package conn

import (
	"louver/api"
	"louver/block"
	"louver/fault"
	"louver/settings"
	"louver/stream"
)

// tell puts an event behind those that weren't told yet.
func (c *Conn) tell(e api.Event) {
	c.events = append(c.events, e)
}

// take goes through a frame, or what is wrong with it.
func (c *Conn) take(f api.Frame, wrong api.Fault) {
	e := fault.New(wrong)
	if e == nil {
		e = c.come(f)
	}
	c.meet(f.Stream, e)
	if !c.gone && c.replies > api.MostReplies {
		c.fail(api.Calm)
	}
}

// meet answers what the other side did wrong on a stream, if it did.
func (c *Conn) meet(n uint32, e error) {
	wrong := fault.Of(e)
	if wrong.Scope == api.NoFault {
		return
	}
	state := c.State(n)
	switch {
	case wrong.Scope == api.ConnFault, state == api.Idle:
		c.fail(wrong.Code)
	case stream.Live(state):
		c.reset(c.streams[n], wrong.Code)
		c.tell(api.Event{Kind: api.GotFault, Stream: n, Fault: wrong})
	}
}

// fail answers a fault of the connection: the side is gone then.
func (c *Conn) fail(code uint32) {
	c.sendAway(code)
	c.gone = true
	c.tell(api.Event{Kind: api.GotFault, Fault: fault.Of(fault.Conn(code))})
}

// come does what a frame asks for that isn't wrong by itself.
func (c *Conn) come(f api.Frame) error {
	acks := f.Flags&api.Ack != 0
	if !c.begun && (f.Type != api.SettingsFrame || acks) {
		return fault.Conn(api.ProtocolError)
	}
	c.begun = true
	w, whole, wrong := c.gatherer.Take(f)
	if e := fault.New(wrong); e != nil {
		return e
	}
	if whole {
		return c.comeBlock(w)
	}
	switch f.Type {
	case api.DataFrame:
		return c.comeData(f)
	case api.ResetFrame:
		return c.comeReset(f)
	case api.SettingsFrame:
		if acks {
			return c.comeAck()
		}
		return c.comeSettings(f)
	case api.PushFrame:
		return fault.Conn(api.ProtocolError)
	case api.PingFrame:
		if !acks {
			c.reply(api.Frame{Type: api.PingFrame, Flags: api.Ack, Data: f.Data})
		}
	case api.GoAwayFrame:
		c.comeAway(f)
	case api.WindowFrame:
		return c.comeWindow(f)
	}
	return nil
}

// comeBlock does what a whole block asks for. It is decoded whatever its stream is: the tables of both sides are one.
func (c *Conn) comeBlock(w block.Whole) error {
	l, wrong := c.decoder.Get(w.Block)
	if e := fault.New(wrong); e != nil {
		return e
	}
	e := api.Event{Kind: api.GotHeaders, Stream: w.Stream, Fields: l, End: w.End}
	s := c.streams[w.Stream]
	switch {
	case s != nil:
		return c.comeHeaders(s, e)
	case c.server:
		return c.comeOpening(e)
	case c.wasOpened(w.Stream):
		return nil
	}
	return fault.Conn(api.ProtocolError)
}

// comeHeaders does what header fields ask for that come on a known stream.
func (c *Conn) comeHeaders(s *known, e api.Event) error {
	live := stream.Live(s.state)
	state, wrong := stream.Come(s.state, api.HeadersFrame, e.End)
	if !c.server && live && !s.gotHeaders && !e.End {
		// Layer 11 knows only those that open a stream, and those that end it; a reply is neither.
		state, wrong = s.state, api.Fault{}
	}
	s.gotHeaders = true
	if !live || wrong != (api.Fault{}) {
		return fault.New(wrong)
	}
	c.tell(e)
	c.move(s, state)
	return nil
}

// comeOpening does what header fields ask for that come to a server on a stream that isn't known.
func (c *Conn) comeOpening(e api.Event) error {
	if c.wasOpened(e.Stream) {
		return fault.Conn(api.StreamClosed)
	}
	if !stream.Number(e.Stream, c.last, true) {
		return fault.Conn(api.ProtocolError)
	}
	state, _ := stream.Come(api.Idle, api.HeadersFrame, e.End)
	s := c.add(e.Stream, state)
	switch {
	case c.away:
		c.move(s, api.ResetHere) // the other side learns from GOAWAY that nothing was done
	case c.live > api.MostStreams:
		c.reset(s, api.RefusedStream)
	default:
		c.tell(e)
	}
	return nil
}

// comeData does what a frame of DATA asks for.
func (c *Conn) comeData(f api.Frame) error {
	all := len(f.Data) + padding(f)
	if e := fault.New(c.meter.Come(all)); e != nil {
		return e
	}
	s := c.streams[f.Stream]
	end := f.Flags&api.EndStream != 0
	before := c.State(f.Stream)
	state, wrong := stream.Come(before, api.DataFrame, end)
	live := stream.Live(before)
	if live && wrong == (api.Fault{}) {
		wrong = s.meter.Come(all)
	}
	if !live || wrong != (api.Fault{}) {
		c.meet(f.Stream, fault.New(wrong))
		if !c.gone {
			c.useUp(all)
		}
		return nil
	}
	c.tell(api.Event{Kind: api.GotData, Stream: f.Stream, Data: f.Data, End: end})
	c.move(s, state)
	c.useUpOf(s, padding(f))
	return nil
}

// padding is how many bytes a frame's padding has, with that which tells its length.
func padding(f api.Frame) int {
	return f.Pad + 1 // a frame without padding has -1 of it
}

// comeReset does what RST_STREAM asks for.
func (c *Conn) comeReset(f api.Frame) error {
	before := c.State(f.Stream)
	state, wrong := stream.Come(before, api.ResetFrame, false)
	if stream.Live(before) {
		c.tell(api.Event{Kind: api.GotReset, Stream: f.Stream, Code: f.Code})
		c.move(c.streams[f.Stream], state)
	}
	return fault.New(wrong)
}

// comeAck does what SETTINGS with Ack asks for.
func (c *Conn) comeAck() error {
	_, wrong := c.own.Ack()
	return fault.New(wrong)
}

// comeSettings does what SETTINGS without Ack asks for.
func (c *Conn) comeSettings(f api.Frame) error {
	before := c.peer
	now, wrong := settings.Apply(before, f.Settings)
	if e := fault.New(wrong); e != nil {
		return e
	}
	c.peer = now
	if e := fault.New(c.ring.Shift(before.Window, now.Window)); e != nil {
		return e
	}
	c.encoder.Limit(now.Table)
	c.reply(api.Frame{Type: api.SettingsFrame, Flags: api.Ack})
	c.tell(api.Event{Kind: api.GotSettings})
	return nil
}

// comeAway does what GOAWAY asks for.
func (c *Conn) comeAway(f api.Frame) {
	c.peerAway = true
	c.tell(api.Event{Kind: api.GotAway, Stream: f.Other, Code: f.Code})
	if c.server {
		return // it opened no streams
	}
	for _, s := range c.liveAbove(f.Other) {
		c.tell(api.Event{Kind: api.GotReset, Stream: s.number, Code: api.RefusedStream})
		c.move(s, api.ResetPeer)
	}
}

// comeWindow does what WINDOW_UPDATE asks for.
func (c *Conn) comeWindow(f api.Frame) error {
	if f.Stream != 0 {
		_, wrong := stream.Come(c.State(f.Stream), api.WindowFrame, false)
		if e := fault.New(wrong); e != nil {
			return e
		}
	}
	return fault.New(c.ring.Grow(f.Stream, f.Window))
}
