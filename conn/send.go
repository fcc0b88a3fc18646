package conn

import (
	"louver/api"
	"louver/block"
	"louver/frame"
	"louver/stream"
)

const unpadded = -1

// send puts a frame, which isn't padded, behind those that wait.
func (c *Conn) send(f api.Frame) {
	f.Pad = unpadded
	c.row = append(c.row, frame.Put(f)...)
}

// reply sends a frame that only answers. They are counted: whoever makes this side answer, and takes no answers, would make the row grow.
func (c *Conn) reply(f api.Frame) {
	c.replies++
	c.send(f)
}

// sendSettings sends what this side tells ahead.
func (c *Conn) sendSettings() {
	l := []api.Setting{{ID: api.SetPush, Value: 0}, {ID: api.SetWindow, Value: c.window}, {ID: api.SetHeaders, Value: api.MaxHeaders}}
	if c.server {
		l = []api.Setting{{ID: api.SetStreams, Value: api.MostStreams}, {ID: api.SetHeaders, Value: api.MaxHeaders}, {ID: api.SetConnect, Value: 1}}
	}
	c.own.Send(l)
	c.send(api.Frame{Type: api.SettingsFrame, Settings: l})
}

// sendHeaders sends a block of header fields.
func (c *Conn) sendHeaders(n uint32, l []api.Field, end bool) {
	w := block.Whole{Stream: n, Block: c.encoder.Put(l), End: end}
	for _, f := range block.Cut(w, api.MaxFrame) {
		c.send(f)
	}
}

// sendAway sends GOAWAY, with the greatest number of a stream that the other side opened. A server opens none.
func (c *Conn) sendAway(code uint32) {
	f := api.Frame{Type: api.GoAwayFrame, Code: code}
	if c.server {
		f.Other = c.last
	}
	c.send(f)
}

// sendWindow sends how much a window grew of a stream, or of the connection, of 0; nothing, if it didn't.
func (c *Conn) sendWindow(n uint32, told uint32) {
	if told > 0 {
		c.reply(api.Frame{Type: api.WindowFrame, Stream: n, Window: told})
	}
}

// fill brings what the ring sends next to the row, as a frame, if the row is empty, and tells whether bytes stand there. The frame is as great however many bytes are asked for: pieces play no part.
func (c *Conn) fill() bool {
	if len(c.row) > 0 {
		return true
	}
	if c.gone {
		return false
	}
	n, b, end, ok := c.ring.Next(api.MaxFrame)
	if ok {
		c.sendData(c.streams[n], b, end)
	}
	return ok
}

// sendData sends bytes of a stream as a frame.
func (c *Conn) sendData(s *known, b []byte, end bool) {
	f := api.Frame{Type: api.DataFrame, Stream: s.number, Data: b}
	if end {
		f.Flags = api.EndStream
	}
	c.send(f)
	state, _ := stream.Send(s.state, api.DataFrame, end)
	c.move(s, state)
}
