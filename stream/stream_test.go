package stream_test

import (
	"math"
	"math/rand"
	"testing"

	"louver/api"
	"louver/stream"
)

var (
	none           = api.Fault{}
	connProtocol   = api.Fault{Scope: api.ConnFault, Code: api.ProtocolError}
	connClosed     = api.Fault{Scope: api.ConnFault, Code: api.StreamClosed}
	connInternal   = api.Fault{Scope: api.ConnFault, Code: api.InternalError}
	streamProtocol = api.Fault{Scope: api.StreamFault, Code: api.ProtocolError}
	streamClosed   = api.Fault{Scope: api.StreamFault, Code: api.StreamClosed}
)

var states = []uint8{api.Idle, api.Open, api.EndedHere, api.EndedPeer, api.Over, api.ResetHere, api.ResetPeer}

// move is what comes of a frame: a state and no fault, or a fault.
type move struct {
	next  uint8
	fault api.Fault
}

// cell is what comes of a frame on a stream: without its end, and with it.
type cell struct {
	goesOn, ends move
}

func to(next uint8) cell { return cell{move{next: next}, move{next: next}} }

func either(next, end uint8) cell { return cell{move{next: next}, move{next: end}} }

func bad(state uint8, f api.Fault) cell { return cell{move{state, f}, move{state, f}} }

func endOnly(state, end uint8) cell { return cell{move{state, streamProtocol}, move{next: end}} }

// columns are the types of frames of the chapter's table, in its order.
var columns = []uint8{api.HeadersFrame, api.DataFrame, api.ResetFrame, api.WindowFrame}

// coming is the chapter's table.
var coming = map[uint8][]cell{
	api.Idle:      {either(api.Open, api.EndedPeer), bad(api.Idle, connProtocol), bad(api.Idle, connProtocol), bad(api.Idle, connProtocol)},
	api.Open:      {endOnly(api.Open, api.EndedPeer), either(api.Open, api.EndedPeer), to(api.ResetPeer), to(api.Open)},
	api.EndedHere: {endOnly(api.EndedHere, api.Over), either(api.EndedHere, api.Over), to(api.ResetPeer), to(api.EndedHere)},
	api.EndedPeer: {bad(api.EndedPeer, streamClosed), bad(api.EndedPeer, streamClosed), to(api.ResetPeer), to(api.EndedPeer)},
	api.Over:      {bad(api.Over, connClosed), bad(api.Over, connClosed), to(api.Over), to(api.Over)},
	api.ResetHere: {to(api.ResetHere), to(api.ResetHere), to(api.ResetHere), to(api.ResetHere)},
	api.ResetPeer: {bad(api.ResetPeer, streamClosed), bad(api.ResetPeer, streamClosed), to(api.ResetPeer), to(api.ResetPeer)},
}

// come is what the chapter says of a frame that came.
func come(state, kind uint8, end bool) move {
	row, known := coming[state]
	if !known {
		return move{state, connInternal}
	}
	if kind == api.PriorityFrame {
		return move{next: state}
	}
	for i, k := range columns {
		if k == kind && end {
			return row[i].ends
		}
		if k == kind {
			return row[i].goesOn
		}
	}
	return move{state, connProtocol}
}

// sending is what may be sent in a state: the state behind it, without the end and with it.
type sending struct {
	state, kind  uint8
	goesOn, ends uint8
}

// sendings are all that may be sent.
var sendings = []sending{
	{api.Idle, api.HeadersFrame, api.Open, api.EndedHere},
	{api.Open, api.HeadersFrame, api.Open, api.EndedHere},
	{api.EndedPeer, api.HeadersFrame, api.EndedPeer, api.Over},
	{api.Open, api.DataFrame, api.Open, api.EndedHere},
	{api.EndedPeer, api.DataFrame, api.EndedPeer, api.Over},
	{api.Open, api.ResetFrame, api.ResetHere, api.ResetHere},
	{api.EndedHere, api.ResetFrame, api.ResetHere, api.ResetHere},
	{api.EndedPeer, api.ResetFrame, api.ResetHere, api.ResetHere},
	{api.Open, api.WindowFrame, api.Open, api.Open},
	{api.EndedHere, api.WindowFrame, api.EndedHere, api.EndedHere},
}

// send is what the chapter says of a frame that is sent.
func send(state, kind uint8, end bool) (uint8, bool) {
	for _, x := range sendings {
		if x.state == state && x.kind == kind && end {
			return x.ends, true
		}
		if x.state == state && x.kind == kind {
			return x.goesOn, true
		}
	}
	return state, false
}

// each calls f with all states, types and ends.
func each(f func(state, kind uint8, end bool)) {
	for state := range 256 {
		for kind := range 256 {
			f(uint8(state), uint8(kind), false)
			f(uint8(state), uint8(kind), true)
		}
	}
}

func TestP11_1Come(t *testing.T) {
	each(func(state, kind uint8, end bool) {
		want := come(state, kind, end)
		for range 2 {
			if next, f := stream.Come(state, kind, end); (move{next, f}) != want {
				t.Fatalf("Come(%d, %d, %v): %d, %v, wanted %v", state, kind, end, next, f, want)
			}
		}
	})
}

func TestP11_1ComeExamples(t *testing.T) {
	for i, x := range []struct {
		state, kind uint8
		end         bool
		want        move
	}{
		{api.Idle, api.DataFrame, false, move{api.Idle, connProtocol}},
		{api.Idle, api.DataFrame, true, move{api.Idle, connProtocol}},
		{api.Idle, api.HeadersFrame, true, move{next: api.EndedPeer}},
		{api.Idle, api.HeadersFrame, false, move{next: api.Open}},
		{api.Idle, api.WindowFrame, false, move{api.Idle, connProtocol}},
		{api.Idle, api.PriorityFrame, false, move{next: api.Idle}},
		{api.Open, api.HeadersFrame, true, move{next: api.EndedPeer}},
		{api.Open, api.HeadersFrame, false, move{api.Open, streamProtocol}},
		{api.Open, api.MoreFrame, true, move{api.Open, connProtocol}},
		{api.Open, api.SettingsFrame, true, move{api.Open, connProtocol}},
		{api.Open, api.ResetFrame, true, move{next: api.ResetPeer}},
		{api.EndedHere, api.DataFrame, true, move{next: api.Over}},
		{api.EndedHere, api.DataFrame, false, move{next: api.EndedHere}},
		{api.EndedPeer, api.HeadersFrame, true, move{api.EndedPeer, streamClosed}},
		{api.EndedPeer, api.PriorityFrame, true, move{next: api.EndedPeer}},
		{api.Over, api.HeadersFrame, false, move{api.Over, connClosed}},
		{api.Over, api.ResetFrame, false, move{next: api.Over}},
		{api.ResetHere, api.HeadersFrame, true, move{next: api.ResetHere}},
		{api.ResetHere, api.ResetFrame, true, move{next: api.ResetHere}},
		{api.ResetHere, api.PingFrame, false, move{api.ResetHere, connProtocol}},
		{api.ResetPeer, api.DataFrame, true, move{api.ResetPeer, streamClosed}},
		{api.ResetPeer, api.ResetFrame, true, move{next: api.ResetPeer}},
		{api.ResetPeer, api.WindowFrame, true, move{next: api.ResetPeer}},
		{7, api.HeadersFrame, true, move{7, connInternal}},
		{7, api.PriorityFrame, false, move{7, connInternal}},
		{255, api.PingFrame, false, move{255, connInternal}},
	} {
		if next, f := stream.Come(x.state, x.kind, x.end); (move{next, f}) != x.want {
			t.Errorf("%d: %d, %v, wanted %v", i, next, f, x.want)
		}
	}
}

func TestP11_1Send(t *testing.T) {
	each(func(state, kind uint8, end bool) {
		want, may := send(state, kind, end)
		for range 2 {
			if next, ok := stream.Send(state, kind, end); next != want || ok != may {
				t.Fatalf("Send(%d, %d, %v): %d, %v, wanted %d, %v", state, kind, end, next, ok, want, may)
			}
		}
	})
}

func TestP11_1SendExamples(t *testing.T) {
	for i, x := range []struct {
		state, kind uint8
		end         bool
		next        uint8
		ok          bool
	}{
		{api.Idle, api.HeadersFrame, false, api.Open, true},
		{api.Idle, api.HeadersFrame, true, api.EndedHere, true},
		{api.Idle, api.DataFrame, false, api.Idle, false},
		{api.Idle, api.ResetFrame, false, api.Idle, false},
		{api.Idle, api.WindowFrame, false, api.Idle, false},
		{api.Open, api.HeadersFrame, false, api.Open, true},
		{api.Open, api.DataFrame, true, api.EndedHere, true},
		{api.Open, api.PriorityFrame, false, api.Open, false},
		{api.EndedHere, api.HeadersFrame, true, api.EndedHere, false},
		{api.EndedHere, api.WindowFrame, true, api.EndedHere, true},
		{api.EndedPeer, api.HeadersFrame, true, api.Over, true},
		{api.EndedPeer, api.WindowFrame, false, api.EndedPeer, false},
		{api.EndedPeer, api.ResetFrame, false, api.ResetHere, true},
		{api.Over, api.ResetFrame, false, api.Over, false},
		{api.ResetHere, api.ResetFrame, false, api.ResetHere, false},
		{7, api.HeadersFrame, false, 7, false},
		{255, api.ResetFrame, true, 255, false},
	} {
		if next, ok := stream.Send(x.state, x.kind, x.end); next != x.next || ok != x.ok {
			t.Errorf("%d: %d, %v, wanted %d, %v", i, next, ok, x.next, x.ok)
		}
	}
}

// numbers are those at which something changes.
var numbers = []uint32{
	0, 1, 2, 3, 4, 5, 6, 7, 100, 101, 65535, 65536, 65537, 1 << 30, 1<<30 + 1,
	math.MaxInt32 - 3, math.MaxInt32 - 2, math.MaxInt32 - 1, math.MaxInt32, 1 << 31, 1<<31 + 1, 1<<31 + 2, math.MaxUint32 - 1, math.MaxUint32,
}

func checkNumber(t *testing.T, n, last uint32) {
	above := n > last && n <= 2147483647
	if got, want := stream.Number(n, last, true), above && n&1 == 1; got != want {
		t.Errorf("Number(%d, %d, true): %v", n, last, got)
	}
	if got, want := stream.Number(n, last, false), above && n&1 == 0 && n != 0; got != want {
		t.Errorf("Number(%d, %d, false): %v", n, last, got)
	}
}

func TestP11_1Number(t *testing.T) {
	for _, n := range numbers {
		for _, last := range numbers {
			checkNumber(t, n, last)
		}
	}
	for n := range uint32(300) {
		for last := range uint32(300) {
			checkNumber(t, n, last)
		}
	}
	rnd := rand.New(rand.NewSource(11))
	for range 200000 {
		n := rnd.Uint32()
		checkNumber(t, n, n+rnd.Uint32()%9-4)
		checkNumber(t, n, rnd.Uint32())
	}
}

func TestP11_1NumberExamples(t *testing.T) {
	for i, x := range []struct {
		n, last uint32
		client  bool
		want    bool
	}{
		{1, 0, true, true},
		{2, 0, false, true},
		{0, 0, true, false},
		{0, 0, false, false},
		{2, 0, true, false},
		{1, 0, false, false},
		{7, 1, true, true}, // numbers may be left out
		{5, 5, true, false},
		{3, 5, true, false},
		{3, 2, true, true},
		{math.MaxInt32, math.MaxInt32 - 1, true, true},
		{math.MaxInt32, math.MaxInt32, true, false},
		{math.MaxInt32 - 1, 0, false, true},
		{1 << 31, 0, false, false},
		{1<<31 + 1, 0, true, false},
		{math.MaxUint32, 0, true, false},
		{1, math.MaxUint32, true, false},
	} {
		if got := stream.Number(x.n, x.last, x.client); got != x.want {
			t.Errorf("%d: %v", i, got)
		}
	}
}

func TestP11_1Live(t *testing.T) {
	for state := range 256 {
		want := state == 1 || state == 2 || state == 3
		if got := stream.Live(uint8(state)); got != want {
			t.Errorf("Live(%d): %v", state, got)
		}
	}
}

// step is a state behind any frame, that comes or is sent.
func step(state, kind uint8, end, comes bool) uint8 {
	if comes {
		next, _ := stream.Come(state, kind, end)
		return next
	}
	next, _ := stream.Send(state, kind, end)
	return next
}

func TestP11_2OneStep(t *testing.T) {
	each(func(state, kind uint8, end bool) {
		if state == api.Idle || stream.Live(state) {
			return
		}
		for _, comes := range []bool{false, true} {
			if next := step(state, kind, end, comes); next != state {
				t.Fatalf("%d became %d by %d, %v, comes: %v", state, next, kind, end, comes)
			}
		}
	})
}

// reached are the states to which a state leads.
func reached(from uint8) map[uint8]bool {
	seen := map[uint8]bool{from: true}
	work := []uint8{from}
	for len(work) > 0 {
		state := work[0]
		work = work[1:]
		for i := range 256 * 4 {
			next := step(state, uint8(i>>2), i&1 == 1, i&2 == 2)
			if !seen[next] {
				seen[next] = true
				work = append(work, next)
			}
		}
	}
	return seen
}

func TestP11_2OnlyOn(t *testing.T) {
	want := map[uint8][]uint8{
		api.Idle:      states,
		api.Open:      {api.Open, api.EndedHere, api.EndedPeer, api.Over, api.ResetHere, api.ResetPeer},
		api.EndedHere: {api.EndedHere, api.Over, api.ResetHere, api.ResetPeer},
		api.EndedPeer: {api.EndedPeer, api.Over, api.ResetHere, api.ResetPeer},
		api.Over:      {api.Over},
		api.ResetHere: {api.ResetHere},
		api.ResetPeer: {api.ResetPeer},
		7:             {7},
		255:           {255},
	}
	for from, all := range want {
		got := reached(from)
		for _, state := range all {
			if !got[state] {
				t.Errorf("%d doesn't lead to %d", from, state)
			}
		}
		if len(got) != len(all) {
			t.Errorf("%d leads to %v, wanted %v", from, got, all)
		}
	}
}

func TestP11_2Rows(t *testing.T) {
	rnd := rand.New(rand.NewSource(112))
	for range 20000 {
		state, was, gone := uint8(api.Idle), false, false
		for range 20 {
			state = step(state, uint8(rnd.Intn(10)), rnd.Intn(4) == 0, rnd.Intn(2) == 0)
			live := stream.Live(state)
			if live && gone {
				t.Fatalf("live again: %d", state)
			}
			gone = gone || was && !live
			was = was || live
		}
	}
}

// TestFaultKeeps looks that a fault changes no state, and that what may not be sent doesn't either.
func TestFaultKeeps(t *testing.T) {
	each(func(state, kind uint8, end bool) {
		if next, f := stream.Come(state, kind, end); f != none && next != state {
			t.Errorf("Come(%d, %d, %v): %d", state, kind, end, next)
		}
		if next, ok := stream.Send(state, kind, end); !ok && next != state {
			t.Errorf("Send(%d, %d, %v): %d", state, kind, end, next)
		}
	})
}

// TestBothSides holds two ends against each other: what one may send, the other one takes without a fault, while nothing crosses on its way.
func TestBothSides(t *testing.T) {
	mirror := map[uint8]uint8{
		api.Idle: api.Idle, api.Open: api.Open, api.EndedHere: api.EndedPeer, api.EndedPeer: api.EndedHere,
		api.Over: api.Over, api.ResetHere: api.ResetPeer, api.ResetPeer: api.ResetHere,
	}
	for _, state := range states {
		for _, kind := range columns {
			for _, end := range []bool{false, true} {
				next, ok := stream.Send(state, kind, end)
				// Header fields that don't end a stream may be sent (those of an answer), though behind the first ones they may not come.
				if !ok || kind == api.HeadersFrame && !end && state != api.Idle {
					continue
				}
				if got, f := stream.Come(mirror[state], kind, end); f != none || got != mirror[next] {
					t.Errorf("%d sends %d, %v: the other side is %d, %v", state, kind, end, got, f)
				}
			}
		}
	}
}
