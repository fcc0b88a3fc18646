package fault_test

import (
	"errors"
	"fmt"
	"io"
	"math"
	"slices"
	"strconv"
	"testing"

	"louver/api"
	"louver/fault"
)

// codes are ordinary ones, the last one with a name, the first ones without, and the greatest.
var codes = []uint32{0, 1, 5, 6, 11, 12, 13, 255, 256, 1000, 1013, math.MaxInt32, math.MaxUint32}

// faults are all faults that errors may have, of these codes.
func faults() []api.Fault {
	var l []api.Fault
	for scope := uint8(api.ConnFault); scope <= api.SocketFault; scope++ {
		for _, code := range codes {
			l = append(l, api.Fault{Scope: scope, Code: code})
		}
	}
	return l
}

// noFaults are faults that no error has.
func noFaults() []api.Fault {
	var l []api.Fault
	for _, scope := range []uint8{api.NoFault, 4, 5, 127, 128, 255} {
		for _, code := range codes {
			l = append(l, api.Fault{Scope: scope, Code: code})
		}
	}
	return l
}

// innocents are errors without a fault.
func innocents() []error {
	var unset *guest
	return []error{nil, io.EOF, errors.New(""), api.OK, api.ErrName, api.Errno(-1), errors.Join(io.EOF, io.ErrNoProgress), fmt.Errorf("read: %w", io.EOF), &guest{io.EOF}, &guest{nil}, unset, list{1, 2}, crowd{io.EOF, nil}, crowd{}, trap{}}
}

// guest is somebody else's error with another one behind it; a nil one panics where it is asked.
type guest struct{ behind error }

func (g *guest) Error() string { return "guest" }
func (g *guest) Unwrap() error { return g.behind }

// list is an error that can't be compared.
type list []int

func (list) Error() string { return "list" }

// crowd is an error with several ones behind it.
type crowd []error

func (crowd) Error() string     { return "crowd" }
func (c crowd) Unwrap() []error { return c }

// trap panics whatever it is asked.
type trap struct{}

func (trap) Error() string { panic("error") }
func (trap) Unwrap() error { panic("unwrap") }
func (trap) Is(error) bool { panic("is") }
func (trap) As(any) bool   { panic("as") }

// liar says that it is whatever it is asked for.
type liar struct{}

func (liar) Error() string { return "liar" }
func (liar) As(any) bool   { return true }

func TestP1_1New(t *testing.T) {
	for _, f := range faults() {
		e := fault.New(f)
		if e == nil {
			t.Fatal(f, "nil")
		}
		if got := fault.Of(e); got != f {
			t.Error(f, got)
		}
		if errors.Unwrap(e) != nil {
			t.Error(f, "something is behind it")
		}
	}
	for _, f := range noFaults() {
		if e := fault.New(f); e != nil {
			t.Error(f, e)
		}
	}
}

func TestP1_1Scopes(t *testing.T) {
	for _, code := range codes {
		for scope, e := range map[uint8]error{api.ConnFault: fault.Conn(code), api.StreamFault: fault.Stream(code), api.SocketFault: fault.Socket(code)} {
			if got := fault.Of(e); got != (api.Fault{Scope: scope, Code: code}) {
				t.Error(scope, code, got)
			}
		}
	}
}

func TestP1_1Of(t *testing.T) {
	for i, e := range innocents() {
		if f := fault.Of(e); f != (api.Fault{}) {
			t.Error(i, f)
		}
	}
	want := api.Fault{Scope: api.StreamFault, Code: api.Cancel}
	for i, e := range []error{
		fault.New(want),
		&guest{fault.New(want)},
		fmt.Errorf("read: %w", fault.New(want)),
		errors.Join(io.EOF, fault.New(want), fault.Conn(api.ProtocolError)),
		errors.Join(fault.Wrap("a", io.EOF), &guest{fault.Wrap("b", fault.New(want))}, fault.Conn(1)),
		errors.Join(errors.Join(io.EOF, fault.New(want)), fault.Conn(api.ProtocolError)),
		crowd{nil, list{1}, fault.New(want), fault.Socket(1000)},
	} {
		if f := fault.Of(e); f != want {
			t.Error(i, f)
		}
	}
	if f := fault.Of(liar{}); f != (api.Fault{}) {
		t.Error(f)
	}
}

func TestP1_1Is(t *testing.T) {
	for _, f := range faults() {
		e := fault.New(f)
		for _, g := range faults() {
			if fault.Is(e, g) != (f == g) || fault.Is(fault.Wrap("a", &guest{e}), g) != (f == g) {
				t.Error(f, g)
			}
		}
		for _, g := range noFaults() {
			if fault.Is(e, g) || fault.Is(&guest{e}, g) {
				t.Error(f, g)
			}
		}
	}
	for i, e := range innocents() {
		for _, g := range append(faults(), noFaults()...) {
			if fault.Is(e, g) != (g.Scope == api.NoFault) {
				t.Error(i, g)
			}
		}
	}
}

// An error of the chain is enough, it needn't be the first one.
func TestP1_1IsAnyOfTheChain(t *testing.T) {
	e := fault.Wrap("a", errors.Join(io.EOF, fault.Conn(9), fault.Wrap("b", fault.Stream(1))))
	for f, want := range map[api.Fault]bool{{Scope: 1, Code: 9}: true, {Scope: 2, Code: 1}: true, {Scope: 2, Code: 9}: false, {Scope: 1, Code: 1}: false, {Scope: 3, Code: 9}: false, {}: false} {
		if fault.Is(e, f) != want {
			t.Error(f)
		}
	}
}

func TestP1_1Wrap(t *testing.T) {
	for _, where := range []string{"", "frame", "\x00\xff"} {
		if e := fault.Wrap(where, nil); e != nil {
			t.Error(where, e)
		}
	}
	for i, e := range []error{io.EOF, api.OK, api.ErrArg, fault.Conn(1), fault.Wrap("a", io.EOF), &guest{nil}} {
		w := fault.Wrap("here", e)
		if w == nil || errors.Unwrap(w) != e || !errors.Is(w, e) {
			t.Error(i, w)
		}
	}
	var g *guest
	if w := fault.Wrap("here", &guest{io.EOF}); !errors.As(w, &g) || g.behind != io.EOF {
		t.Error(w)
	}
	if fault.Wrap("here", (*guest)(nil)) == nil || fault.Wrap("here", list(nil)) == nil {
		t.Error("an error that holds nil is one")
	}
}

func TestP1_1Where(t *testing.T) {
	for i, c := range []struct {
		e    error
		want []string
	}{
		{nil, nil},
		{io.EOF, nil},
		{fault.Conn(1), nil},
		{&guest{fault.Socket(1)}, nil},
		{fault.Wrap("a", nil), nil},
		{(*guest)(nil), nil},
		{trap{}, nil},
		{liar{}, nil},
		{fault.Wrap("a", io.EOF), []string{"a"}},
		{fault.Wrap("", fault.Conn(1)), []string{""}},
		{fault.Wrap("a", fault.Wrap("a", fault.Conn(1))), []string{"a", "a"}},
		{fault.Wrap("c", fault.Wrap("b", fault.Wrap("a", fault.Conn(1)))), []string{"c", "b", "a"}},
		{&guest{fault.Wrap("b", fault.Wrap("a", fault.Conn(1)))}, []string{"b", "a"}},
		{fault.Wrap("b", &guest{&guest{fault.Wrap("a", fault.Conn(1))}}), []string{"b", "a"}},
		{fault.Wrap("b", fmt.Errorf("x: %w", fault.Wrap("a", io.EOF))), []string{"b", "a"}},
		{fault.Wrap("b", errors.Join(io.EOF, fault.Wrap("a", fault.Conn(1)))), []string{"b", "a"}},
		{fault.Wrap("b", &guest{nil}), []string{"b"}},
		{fault.Wrap("b", (*guest)(nil)), []string{"b"}},
		{fault.Wrap("b", trap{}), []string{"b"}},
		{fault.Wrap("b", list{1}), []string{"b"}},
		{fault.Wrap("b", crowd{}), []string{"b"}},
	} {
		if got := fault.Where(c.e); !slices.Equal(got, c.want) {
			t.Error(i, got, c.want)
		}
	}
}

// What is answered is new memory.
func TestP1_1WhereIsNew(t *testing.T) {
	e := fault.Wrap("b", fault.Wrap("a", fault.Conn(1)))
	fault.Where(e)[0] = "x"
	if got := fault.Where(e); !slices.Equal(got, []string{"b", "a"}) {
		t.Error(got)
	}
}

// Those in a row weigh more than all behind it; those of a row weigh the same.
func TestP1_1Worse(t *testing.T) {
	row := [][]api.Fault{
		{{Scope: 1, Code: 0}},
		{{Scope: 1, Code: 1}},
		{{Scope: 1, Code: 12}},
		{{Scope: 1, Code: math.MaxUint32}},
		{{Scope: 2, Code: 0}},
		{{Scope: 2, Code: 9}},
		{{Scope: 2, Code: math.MaxUint32}},
		{{Scope: 3, Code: 0}},
		{{Scope: 3, Code: 1000}},
		{{Scope: 3, Code: 1013}},
		{{Scope: 0, Code: 0}, {Scope: 4, Code: 0}, {Scope: 255, Code: 0}},
		{{Scope: 0, Code: 3}, {Scope: 4, Code: 3}, {Scope: 128, Code: 3}},
		{{Scope: 0, Code: math.MaxUint32}, {Scope: 5, Code: math.MaxUint32}},
	}
	for i, some := range row {
		for j, others := range row {
			for _, a := range some {
				for _, b := range others {
					want := a
					if j < i {
						want = b
					}
					if got := fault.Worse(a, b); got != want {
						t.Error(a, b, got)
					}
				}
			}
		}
	}
}

func TestP1_1Name(t *testing.T) {
	names := []string{"NO_ERROR", "PROTOCOL_ERROR", "INTERNAL_ERROR", "FLOW_CONTROL_ERROR", "SETTINGS_TIMEOUT", "STREAM_CLOSED", "FRAME_SIZE_ERROR", "REFUSED_STREAM", "CANCEL", "COMPRESSION_ERROR", "CONNECT_ERROR", "ENHANCE_YOUR_CALM"}
	for code := uint32(0); code < 300; code++ {
		want := ""
		if code < 12 {
			want = names[code]
		}
		for scope := uint8(api.ConnFault); scope <= api.StreamFault; scope++ {
			if got := fault.Name(api.Fault{Scope: scope, Code: code}); got != want {
				t.Error(scope, code, got)
			}
		}
	}
	for _, code := range codes {
		if got := fault.Name(api.Fault{Scope: api.SocketFault, Code: code}); got != strconv.FormatInt(int64(code), 10) {
			t.Error(code, got)
		}
	}
	for _, f := range []api.Fault{{Scope: 1, Code: math.MaxUint32}, {Scope: 2, Code: math.MaxInt32}} {
		if got := fault.Name(f); got != "" {
			t.Error(f, got)
		}
	}
	for _, f := range noFaults() {
		if got := fault.Name(f); got != "" {
			t.Error(f, got)
		}
	}
}

func TestP1_1Example(t *testing.T) {
	f := fault.Of(fault.Wrap("frame", fault.Conn(6)))
	if f != (api.Fault{Scope: api.ConnFault, Code: api.FrameSizeError}) || fault.Name(f) != "FRAME_SIZE_ERROR" {
		t.Error(f)
	}
}

// Errors are told as texts that name where they came by and what is wrong, if it has a name or not.
func TestErrorTexts(t *testing.T) {
	for want, e := range map[string]error{
		"connection fault FRAME_SIZE_ERROR":  fault.Conn(6),
		"stream fault 12":                    fault.Stream(12),
		"conn: frame: socket fault 1002":     fault.Wrap("conn", fault.Wrap("frame", fault.Socket(1002))),
		"conn: " + api.ErrShort.Error():      fault.Wrap("conn", api.ErrShort),
		"conn: guest":                        fault.Wrap("conn", &guest{fault.Conn(1)}),
		"connection fault 4294967295":        fault.Conn(math.MaxUint32),
		": stream fault ENHANCE_YOUR_CALM":   fault.Wrap("", fault.Stream(11)),
		"socket fault 0":                     fault.Socket(0),
		"connection fault NO_ERROR":          fault.Conn(0),
		"frame: connection fault 2147483647": fault.Wrap("frame", fault.Conn(math.MaxInt32)),
	} {
		if got := e.Error(); got != want {
			t.Error(got, want)
		}
	}
}

// wrappers put an error behind another one; some of them are the package's own.
func wrappers() map[string]func(error) error {
	return map[string]func(error) error{
		"one":     func(e error) error { return fault.Wrap("a", e) },
		"nothing": func(e error) error { return fault.Wrap("", e) },
		"two":     func(e error) error { return fault.Wrap("b", fault.Wrap("a", e)) },
		"guest":   func(e error) error { return fault.Wrap("b", &guest{fault.Wrap("a", e)}) },
		"format":  func(e error) error { return fault.Wrap("b", fmt.Errorf("x: %w", e)) },
		"join":    func(e error) error { return fault.Wrap("b", errors.Join(io.EOF, e)) },
		"many": func(e error) error {
			for i := range 100 {
				e = fault.Wrap(strconv.Itoa(i), e)
			}
			return e
		},
	}
}

func TestP1_2Fault(t *testing.T) {
	for name, wrap := range wrappers() {
		for _, f := range faults() {
			e := wrap(fault.New(f))
			if got := fault.Of(e); got != f {
				t.Error(name, f, got)
			}
			if !fault.Is(e, f) || fault.Is(e, api.Fault{}) || fault.Is(e, api.Fault{Scope: f.Scope, Code: f.Code + 1}) {
				t.Error(name, f, "is")
			}
			if !errors.Is(e, fault.New(f)) {
				t.Error(name, f, "its chain")
			}
		}
	}
}

func TestP1_2NoFault(t *testing.T) {
	for name, wrap := range wrappers() {
		for i, e := range innocents() {
			w := wrap(e)
			if f := fault.Of(w); f != (api.Fault{}) {
				t.Error(name, i, f)
			}
			if !fault.Is(w, api.Fault{}) || fault.Is(w, api.Fault{Scope: api.ConnFault}) {
				t.Error(name, i, "is")
			}
		}
	}
}

// What was wrapped stays as it was: the same error, wrapped twice, has both times its own places.
func TestP1_2Branches(t *testing.T) {
	e := fault.Wrap("frame", fault.Stream(api.StreamClosed))
	a, b := fault.Wrap("a", e), fault.Wrap("b", e)
	for _, c := range []struct {
		e    error
		want []string
	}{{e, []string{"frame"}}, {a, []string{"a", "frame"}}, {b, []string{"b", "frame"}}} {
		if got := fault.Where(c.e); !slices.Equal(got, c.want) {
			t.Error(got, c.want)
		}
		if f := fault.Of(c.e); f != fault.Of(e) {
			t.Error(f)
		}
	}
}

func TestP1_2Deep(t *testing.T) {
	const depth = 1 << 16
	f := api.Fault{Scope: api.SocketFault, Code: api.CloseGreat}
	e := fault.New(f)
	for i := range depth {
		e = fault.Wrap(strconv.Itoa(i), e)
	}
	places := fault.Where(e)
	if fault.Of(e) != f || !fault.Is(e, f) || fault.Is(e, api.Fault{}) || len(places) != depth {
		t.Fatal(fault.Of(e), len(places))
	}
	for i, place := range places {
		if place != strconv.Itoa(depth-1-i) {
			t.Fatal(i, place)
		}
	}
}
