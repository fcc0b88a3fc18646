package conn_test

import (
	"encoding/hex"
	"fmt"
	"reflect"
	"slices"
	"strconv"
	"strings"
	"testing"

	"louver/api"
	"louver/block"
	"louver/conn"
	"louver/frame"
	"louver/hpack"
	"louver/split"
)

// A rig plays the other side of a connection. Frames, events and calls are told as lines of text:
//
//	> FRAME    the frame comes
//	! event    that is told next
//	< FRAME    that is sent next
//	CALL -> x  the call answers x
//
// All that is told behind a frame has to stand behind it, and all that is sent wherever something is.
type rig struct {
	t   *testing.T
	c   *conn.Conn
	enc *hpack.Encoder // of the other side
	dec *hpack.Decoder
	out []byte // was sent, and not looked at

	gather *block.Gatherer // of what was looked at
	more   int             // frames of CONTINUATION in it
}

func newRig(t *testing.T, server bool, size uint32) *rig {
	return &rig{t: t, c: conn.New(server, size), enc: hpack.NewEncoder(api.MaxTable), dec: hpack.NewDecoder(api.MaxTable), gather: block.New()}
}

// server is a rig of a server that the beginning is through with.
func server(t *testing.T) *rig {
	t.Helper()
	r := newRig(t, true, 0)
	r.feed(split.Preface())
	r.run("> SETTINGS", "! settings", "> SETTINGS ack", "< SETTINGS 3=16 6=4096 8=1", "< SETTINGS ack")
	return r
}

// client is a rig of a client whose streams have this window, that the beginning is through with.
func client(t *testing.T, size uint32) *rig {
	t.Helper()
	r := newRig(t, false, size)
	r.run("> SETTINGS 3=16 6=4096 8=1", "! settings", "> SETTINGS ack")
	r.preface()
	r.run("< SETTINGS 2=0 4="+strconv.Itoa(int(size))+" 6=4096", "< SETTINGS ack")
	return r
}

// preface takes a client's preface.
func (r *rig) preface() {
	r.t.Helper()
	if b := r.c.Out(len(split.Preface())); string(b) != string(split.Preface()) {
		r.t.Fatal(b)
	}
}

// feed hands over bytes, which all have to be taken, and tells what that tells.
func (r *rig) feed(b []byte) []string {
	r.t.Helper()
	var told []string
	for first := true; first || len(b) > 0; first = false {
		n := r.c.Feed(b)
		l := r.poll()
		if n == 0 && len(b) > 0 && !r.c.Gone() {
			r.t.Fatalf("%d bytes aren't taken", len(b))
		}
		told = append(told, l...)
		if r.c.Gone() {
			break
		}
		b = b[n:]
	}
	return told
}

// poll is all that is told.
func (r *rig) poll() []string {
	r.t.Helper()
	var l []string
	for {
		e, ok := r.c.Poll()
		if !ok {
			if !reflect.DeepEqual(e, api.Event{}) {
				r.t.Fatal(e)
			}
			return l
		}
		l = append(l, eventText(r.t, e))
	}
}

// run does lines, in their order; those of several rows may stand in one text.
func (r *rig) run(lines ...string) {
	r.t.Helper()
	var told, sent []string
	looked := false
	for i, line := range slices.Collect(strings.SplitSeq(strings.Join(lines, "\n"), "\n")) {
		line = strings.TrimSpace(line)
		if line == "" || strings.HasPrefix(line, "#") {
			continue
		}
		where := fmt.Sprintf("line %d, %s", i, line)
		mark, rest, _ := strings.Cut(line, " ")
		if mark != "!" && len(told) > 0 {
			r.t.Fatalf("%s: told is %q, too", where, told)
		}
		if mark != "<" && looked && len(sent) > 0 {
			r.t.Fatalf("%s: sent is %q, too", where, sent)
		}
		switch mark {
		case ">":
			told, looked = r.feed(r.bytes(rest)), false
		case "!":
			told = r.first(where, rest, told)
		case "<":
			if !looked {
				sent, looked = r.sent(), true
			}
			if rest != "" {
				sent = r.first(where, rest, sent)
			}
		default:
			looked = false
			call, want, _ := strings.Cut(line, " -> ")
			if got := r.call(strings.Fields(call)); got != want {
				r.t.Fatalf("%s: %s", where, got)
			}
		}
	}
	if len(told) > 0 || len(sent) > 0 {
		r.t.Fatalf("at the end: told is %q, sent is %q, too", told, sent)
	}
}

// first takes the first one of a list, which has to be the wanted one.
func (r *rig) first(where, want string, l []string) []string {
	r.t.Helper()
	if len(l) == 0 || l[0] != want {
		r.t.Fatalf("%s: %q", where, l)
	}
	return l[1:]
}

// sent are all frames that are sent.
func (r *rig) sent() []string {
	r.t.Helper()
	for {
		b := r.c.Out(1 << 20)
		if len(b) == 0 {
			break
		}
		r.out = append(r.out, b...)
	}
	return r.texts()
}

// texts are the whole frames of what was sent; of a block its fields, and how many frames came behind the first one.
func (r *rig) texts() []string {
	r.t.Helper()
	var l []string
	for {
		n, ok := frame.Head(r.out)
		if !ok || n > len(r.out) {
			return l
		}
		f, wrong := frame.Get(r.out[:n])
		r.out = r.out[n:]
		if wrong != (api.Fault{}) {
			r.t.Fatal(f, wrong)
		}
		w, whole, wrong := r.gather.Take(f)
		if wrong != (api.Fault{}) {
			r.t.Fatal(f, wrong)
		}
		switch {
		case whole:
			fields, wrong := r.dec.Get(w.Block)
			if wrong != (api.Fault{}) {
				r.t.Fatal(w, wrong)
			}
			text := fmt.Sprintf("HEADERS %d%s%s", w.Stream, fieldsText(fields), endText(w.End))
			if f.Type == api.MoreFrame {
				text += " more=" + strconv.Itoa(r.more+1)
			}
			l, r.more = append(l, text), 0
		case f.Type == api.MoreFrame:
			r.more++
		case f.Type != api.HeadersFrame:
			l = append(l, frameText(r.t, f))
		}
	}
}

// call makes a call, and tells its answer.
func (r *rig) call(words []string) string {
	r.t.Helper()
	n := func(i int) int { return number(r.t, words[i]) }
	rest := func(i int) ([]api.Field, bool) {
		l := words[i:]
		end := len(l) > 0 && l[len(l)-1] == "end"
		if end {
			l = l[:len(l)-1]
		}
		return fieldsOf(l), end
	}
	switch words[0] {
	case "Open":
		l, end := rest(1)
		stream, e := r.c.Open(l, end)
		return strconv.Itoa(int(stream)) + " " + errnoText(e)
	case "Answer":
		l, end := rest(2)
		return errnoText(r.c.Answer(uint32(n(1)), l, end))
	case "Data":
		return errnoText(r.c.Data(uint32(n(1)), dataOf(r.t, words[2]), len(words) > 3))
	case "Use":
		r.c.Use(uint32(n(1)), n(2))
		return ""
	case "Reset":
		return errnoText(r.c.Reset(uint32(n(1)), uint32(n(2))))
	case "Away":
		r.c.Away(uint32(n(1)))
		return ""
	case "State":
		return stateText(r.c.State(uint32(n(1))))
	case "Waits":
		return strconv.Itoa(r.c.Waits(uint32(n(1))))
	case "Live":
		return strconv.Itoa(r.c.Live())
	case "Gone":
		return strconv.FormatBool(r.c.Gone())
	case "Quiet":
		return strconv.FormatBool(r.c.Quiet())
	case "Feed":
		return strconv.Itoa(r.c.Feed(dataOf(r.t, words[1])))
	case "Out": // some bytes, which are looked at later
		b := r.c.Out(n(1))
		r.out = append(r.out, b...)
		return strconv.Itoa(len(b))
	}
	r.t.Fatal(words)
	return ""
}

// bytes are a frame's of the other side.
func (r *rig) bytes(text string) []byte {
	r.t.Helper()
	words := strings.Fields(text)
	if words[0] == "RAW" {
		b, e := hex.DecodeString(strings.Join(words[1:], ""))
		if e != nil {
			r.t.Fatal(e)
		}
		return b
	}
	b := frame.Put(r.frame(words))
	if len(b) == 0 {
		r.t.Fatal(text)
	}
	return b
}

var types = []string{"DATA", "HEADERS", "PRIORITY", "RST", "SETTINGS", "PUSH", "PING", "GOAWAY", "WINDOW", "MORE"}

// frame is a frame of the other side.
func (r *rig) frame(words []string) api.Frame {
	r.t.Helper()
	n := func(i int) uint32 { return uint32(number(r.t, words[i])) }
	f := api.Frame{Type: uint8(slices.Index(types, words[0])), Pad: -1}
	if len(words) > 1 && f.Type != api.SettingsFrame && f.Type != api.PingFrame && f.Type != api.GoAwayFrame {
		f.Stream = n(1)
	}
	switch words[0] {
	case "DATA":
		f.Data = dataOf(r.t, words[2])
		r.flags(&f, words[3:])
	case "HEADERS":
		f.Flags = api.EndHeaders
		r.block(&f, r.flags(&f, words[2:]))
	case "MORE":
		f.Flags = api.EndHeaders
		r.block(&f, r.flags(&f, words[2:]))
	case "RST":
		f.Code = n(2)
	case "SETTINGS":
		for _, x := range r.flags(&f, words[1:]) {
			id, value, _ := strings.Cut(x, "=")
			f.Settings = append(f.Settings, api.Setting{ID: uint16(number(r.t, id)), Value: uint32(number(r.t, value))})
		}
	case "PUSH":
		f.Flags, f.Other, f.Data = api.EndHeaders, n(2), []byte{0x82}
	case "PING":
		f.Data = []byte(words[1])
		r.flags(&f, words[2:])
	case "GOAWAY":
		f.Other, f.Code, f.Data = n(1), n(2), []byte("bye")
	case "WINDOW":
		f.Window = n(2)
	case "TYPE": // of a number
		f.Type, f.Stream, f.Data = uint8(n(1)), n(2), []byte("any")
	}
	return f
}

// flags takes words that tell flags, and answers the others.
func (r *rig) flags(f *api.Frame, words []string) []string {
	r.t.Helper()
	var rest []string
	for _, w := range words {
		name, value, _ := strings.Cut(w, "=")
		switch name {
		case "end":
			f.Flags |= api.EndStream
		case "ack":
			f.Flags |= api.Ack
		case "part":
			f.Flags &^= api.EndHeaders
		case "pad":
			f.Flags |= api.Padded
			f.Pad = number(r.t, value)
		case "on":
			f.Flags |= api.Priority
			f.Other, f.Weight = uint32(number(r.t, value)), 5
		default:
			rest = append(rest, w)
		}
	}
	return rest
}

// block gives a frame the bytes of a block: of fields, or of a block as it is.
func (r *rig) block(f *api.Frame, words []string) {
	if len(words) == 1 && strings.HasPrefix(words[0], "hex:") {
		f.Data, _ = hex.DecodeString(words[0][4:])
		return
	}
	f.Data = r.enc.Put(fieldsOf(words))
}

func number(t *testing.T, s string) int {
	t.Helper()
	n, e := strconv.Atoi(s)
	if e != nil {
		t.Fatal(e)
	}
	return n
}

// dataOf are bytes: - is none, *n as many, others as they are.
func dataOf(t *testing.T, s string) []byte {
	t.Helper()
	switch {
	case s == "-":
		return nil
	case s[0] == '*':
		return signs(number(t, s[1:]))
	}
	return []byte(s)
}

func dataText(b []byte) string {
	switch {
	case len(b) == 0:
		return "-"
	case len(b) > 40:
		return "*" + strconv.Itoa(len(b))
	}
	return string(b)
}

// signs are so many bytes.
func signs(n int) []byte {
	b := make([]byte, n)
	for i := range b {
		b[i] = 'a' + byte(i%26)
	}
	return b
}

func fieldsOf(words []string) []api.Field {
	var l []api.Field
	for _, w := range words {
		name, value, _ := strings.Cut(w, "=")
		never := strings.HasPrefix(name, "!")
		if value != "" && value[0] == '*' {
			n, _ := strconv.Atoi(value[1:])
			value = string(signs(n))
		}
		l = append(l, api.Field{Name: strings.TrimPrefix(name, "!"), Value: value, Never: never})
	}
	return l
}

func fieldsText(l []api.Field) string {
	text := ""
	for _, f := range l {
		never := ""
		if f.Never {
			never = "!"
		}
		value := f.Value
		if len(value) > 40 {
			value = "*" + strconv.Itoa(len(value))
		}
		text += " " + never + f.Name + "=" + value
	}
	return text
}

func endText(end bool) string {
	if end {
		return " end"
	}
	return ""
}

// frameText is a frame as a text; every part of it that isn't told there has to be zero.
func frameText(t *testing.T, f api.Frame) string {
	t.Helper()
	flags := f.Flags
	text := types[f.Type]
	if f.Type != api.SettingsFrame && f.Type != api.PingFrame && f.Type != api.GoAwayFrame {
		text += " " + strconv.Itoa(int(f.Stream))
	}
	switch f.Type {
	case api.DataFrame:
		text += " " + dataText(f.Data) + endText(flags&api.EndStream != 0)
		flags &^= api.EndStream
	case api.ResetFrame:
		text += " " + strconv.Itoa(int(f.Code))
	case api.SettingsFrame:
		for _, s := range f.Settings {
			text += " " + strconv.Itoa(int(s.ID)) + "=" + strconv.Itoa(int(s.Value))
		}
	case api.PingFrame:
		text += " " + string(f.Data)
	case api.GoAwayFrame:
		text += " " + strconv.Itoa(int(f.Other)) + " " + strconv.Itoa(int(f.Code))
		if len(f.Data) > 0 {
			t.Fatal(f)
		}
	case api.WindowFrame:
		text += " " + strconv.Itoa(int(f.Window))
	}
	if f.Type == api.SettingsFrame || f.Type == api.PingFrame {
		if flags&api.Ack != 0 {
			text += " ack"
		}
		flags &^= api.Ack
	}
	if flags != 0 || f.Pad != -1 {
		t.Fatal(f)
	}
	return text
}

// eventText is an event as a text; every part of it that isn't told there has to be zero.
func eventText(t *testing.T, e api.Event) string {
	t.Helper()
	same := api.Event{Kind: e.Kind}
	text := ""
	switch e.Kind {
	case api.GotHeaders:
		same.Stream, same.Fields, same.End = e.Stream, e.Fields, e.End
		text = fmt.Sprintf("headers %d%s%s", e.Stream, fieldsText(e.Fields), endText(e.End))
	case api.GotData:
		same.Stream, same.Data, same.End = e.Stream, e.Data, e.End
		text = fmt.Sprintf("data %d %s%s", e.Stream, dataText(e.Data), endText(e.End))
	case api.GotReset:
		same.Stream, same.Code = e.Stream, e.Code
		text = fmt.Sprintf("reset %d %d", e.Stream, e.Code)
	case api.GotAway:
		same.Stream, same.Code = e.Stream, e.Code
		text = fmt.Sprintf("away %d %d", e.Stream, e.Code)
	case api.GotSettings:
		text = "settings"
	case api.GotFault:
		same.Stream, same.Fault = e.Stream, e.Fault
		text = fmt.Sprintf("fault %d", e.Fault.Code)
		if e.Fault.Scope == api.StreamFault {
			text += fmt.Sprintf(" of %d", e.Stream)
		} else if e.Fault.Scope != api.ConnFault || e.Stream != 0 {
			t.Fatal(e)
		}
	}
	if !reflect.DeepEqual(e, same) {
		t.Fatal(e)
	}
	return text
}

func errnoText(e api.Errno) string {
	switch e {
	case api.OK:
		return "OK"
	case api.ErrKind:
		return "ErrKind"
	case api.ErrFull:
		return "ErrFull"
	case api.ErrShut:
		return "ErrShut"
	case api.ErrState:
		return "ErrState"
	}
	return e.Error()
}

func stateText(state uint8) string {
	return []string{"Idle", "Open", "EndedHere", "EndedPeer", "Over", "ResetHere", "ResetPeer"}[state]
}
