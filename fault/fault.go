// Package fault is layer 1: see shared/doc/01-fault.md.
package fault

import (
	"errors"
	"strconv"

	"louver/api"
)

// failure is an error with a fault. Its scope is one that faults may have: New sees to it.
type failure struct {
	fault api.Fault
}

// passage is an error with another one behind it, and the place where it came by.
type passage struct {
	where  string
	behind error
}

var scopes = [...]string{
	api.ConnFault:   "connection",
	api.StreamFault: "stream",
	api.SocketFault: "socket",
}

var names = [...]string{
	api.NoError:         "NO_ERROR",
	api.ProtocolError:   "PROTOCOL_ERROR",
	api.InternalError:   "INTERNAL_ERROR",
	api.FlowError:       "FLOW_CONTROL_ERROR",
	api.SettingsTimeout: "SETTINGS_TIMEOUT",
	api.StreamClosed:    "STREAM_CLOSED",
	api.FrameSizeError:  "FRAME_SIZE_ERROR",
	api.RefusedStream:   "REFUSED_STREAM",
	api.Cancel:          "CANCEL",
	api.CompressError:   "COMPRESSION_ERROR",
	api.ConnectError:    "CONNECT_ERROR",
	api.Calm:            "ENHANCE_YOUR_CALM",
}

// New is an error with a fault; of none, and of a scope that isn't one, nil.
func New(f api.Fault) error {
	if scope(f) == api.NoFault {
		return nil
	}
	return &failure{f}
}

// Conn is an error with a connection's fault.
func Conn(code uint32) error {
	return New(api.Fault{Scope: api.ConnFault, Code: code})
}

// Stream is an error with a stream's fault.
func Stream(code uint32) error {
	return New(api.Fault{Scope: api.StreamFault, Code: code})
}

// Socket is an error with a socket's fault.
func Socket(code uint32) error {
	return New(api.Fault{Scope: api.SocketFault, Code: code})
}

// Wrap is an error with another one behind it; nil of nil.
func Wrap(where string, e error) error {
	if e == nil {
		return nil
	}
	return &passage{where, e}
}

// Of is an error's fault: that of the first error in its chain that has one.
func Of(e error) api.Fault {
	if f := firstFailure(e); f != nil {
		return f.fault
	}
	return api.Fault{}
}

// Is tells whether an error of a chain has just this fault; of NoFault, whether none has any.
func Is(e error, f api.Fault) bool {
	if f.Scope == api.NoFault {
		return firstFailure(e) == nil
	}
	wanted := New(f)
	return wanted != nil && holds(e, wanted)
}

// Where are the places by which an error was wrapped, the last one first.
func Where(e error) []string {
	var places []string
	for p := firstPassage(e); p != nil; p = p.next() {
		places = append(places, p.where)
	}
	return places
}

// Worse is the fault that weighs more; a, if none does.
func Worse(a, b api.Fault) api.Fault {
	x, y := scope(a), scope(b)
	if x == y && b.Code < a.Code {
		return b
	}
	if x != y && (x == api.NoFault || y != api.NoFault && y < x) {
		return b
	}
	return a
}

// Name is a code's name; nothing, if it has none.
func Name(f api.Fault) string {
	switch f.Scope {
	case api.ConnFault, api.StreamFault:
		if f.Code < uint32(len(names)) {
			return names[f.Code]
		}
	case api.SocketFault:
		return decimal(f.Code)
	}
	return ""
}

// scope is a fault's scope; those that aren't scopes count as NoFault.
func scope(f api.Fault) uint8 {
	if f.Scope > api.SocketFault {
		return api.NoFault
	}
	return f.Scope
}

func decimal(code uint32) string {
	return strconv.FormatUint(uint64(code), 10)
}

// Errors of others stand in chains too, and their methods may panic: what is
// behind such a one can't be seen, so for those who look below the chain ends there.

// firstFailure is the first failure in a chain, or nil.
func firstFailure(e error) (f *failure) {
	defer func() { recover() }()
	errors.As(e, &f)
	return f
}

// firstPassage is the first passage in a chain, or nil.
func firstPassage(e error) (p *passage) {
	defer func() { recover() }()
	errors.As(e, &p)
	return p
}

// holds tells whether an error in a chain is the wanted one.
func holds(e, wanted error) (found bool) {
	defer func() { recover() }()
	return errors.Is(e, wanted)
}

// Error is the fault as a text.
func (f *failure) Error() string {
	name := Name(f.fault)
	if name == "" {
		name = decimal(f.fault.Code)
	}
	return scopes[f.fault.Scope] + " fault " + name
}

// Is tells whether another error has the same fault: errors.Is asks, as two failures are never one.
func (f *failure) Is(other error) bool {
	o, ok := other.(*failure)
	return ok && o.fault == f.fault
}

// Error is the place, and what is behind it.
func (p *passage) Error() string {
	return p.where + ": " + p.behind.Error()
}

// Unwrap is what is behind the passage.
func (p *passage) Unwrap() error {
	return p.behind
}

// next is the passage behind this one, or nil.
func (p *passage) next() *passage {
	switch e := p.behind.(type) {
	case *passage:
		return e
	case *failure:
		return nil // it was made, not wrapped
	default:
		return firstPassage(e)
	}
}
