package statics_test

import (
	"math"
	"strconv"
	"strings"
	"testing"

	"louver/api"
	"louver/statics"
)

// table are the fields that are known ahead, as the chapter lists them.
const table = `
| 1 | :authority |  |
| 2 | :method | GET |
| 3 | :method | POST |
| 4 | :path | / |
| 5 | :path | /index.html |
| 6 | :scheme | http |
| 7 | :scheme | https |
| 8 | :status | 200 |
| 9 | :status | 204 |
| 10 | :status | 206 |
| 11 | :status | 304 |
| 12 | :status | 400 |
| 13 | :status | 404 |
| 14 | :status | 500 |
| 15 | accept-charset |  |
| 16 | accept-encoding | gzip, deflate |
| 17 | accept-language |  |
| 18 | accept-ranges |  |
| 19 | accept |  |
| 20 | access-control-allow-origin |  |
| 21 | age |  |
| 22 | allow |  |
| 23 | authorization |  |
| 24 | cache-control |  |
| 25 | content-disposition |  |
| 26 | content-encoding |  |
| 27 | content-language |  |
| 28 | content-length |  |
| 29 | content-location |  |
| 30 | content-range |  |
| 31 | content-type |  |
| 32 | cookie |  |
| 33 | date |  |
| 34 | etag |  |
| 35 | expect |  |
| 36 | expires |  |
| 37 | from |  |
| 38 | host |  |
| 39 | if-match |  |
| 40 | if-modified-since |  |
| 41 | if-none-match |  |
| 42 | if-range |  |
| 43 | if-unmodified-since |  |
| 44 | last-modified |  |
| 45 | link |  |
| 46 | location |  |
| 47 | max-forwards |  |
| 48 | proxy-authenticate |  |
| 49 | proxy-authorization |  |
| 50 | range |  |
| 51 | referer |  |
| 52 | refresh |  |
| 53 | retry-after |  |
| 54 | server |  |
| 55 | set-cookie |  |
| 56 | strict-transport-security |  |
| 57 | transfer-encoding |  |
| 58 | user-agent |  |
| 59 | vary |  |
| 60 | via |  |
| 61 | www-authenticate |  |
`

// noNumbers are numbers of no field; most of them would be one if they lost their high bits.
var noNumbers = []int{0, 62, -1, -2, -61, -62, 63, 64, 65, 100, 127, 128, 129, 255, 256, 256 + 1, 256 + 61, 1<<16 + 1, 1<<16 + 61, 1<<32 + 2, -1<<32 + 2, math.MaxInt8, math.MinInt8, math.MaxInt16, math.MinInt16, math.MaxInt32, math.MinInt32, math.MinInt32 + 2, math.MaxInt, math.MaxInt - 1, math.MinInt, math.MinInt + 1, math.MinInt + 61}

// row is a row of the chapter's table.
type row struct {
	number      int
	name, value string
}

func rows(t *testing.T) []row {
	t.Helper()
	var l []row
	for line := range strings.SplitSeq(strings.TrimSpace(table), "\n") {
		cells := strings.Split(line, "|")
		n, err := strconv.Atoi(strings.TrimSpace(cells[1]))
		if err != nil || len(cells) != 5 || n != len(l)+1 {
			t.Fatal(line)
		}
		l = append(l, row{n, strings.TrimSpace(cells[2]), strings.TrimSpace(cells[3])})
	}
	if len(l) != 61 {
		t.Fatal(len(l))
	}
	return l
}

// found is what Find has to answer: those rows that have the name are told from those that have the value too, and each time the lowest is taken.
func found(l []row, name, value string) (int, bool) {
	both, named := math.MaxInt, math.MaxInt
	for _, r := range l {
		if r.name == name {
			named = min(named, r.number)
			if r.value == value {
				both = min(both, r.number)
			}
		}
	}
	switch {
	case both < math.MaxInt:
		return both, true
	case named < math.MaxInt:
		return named, false
	}
	return 0, false
}

func checkAt(t *testing.T, n int, want api.Field, is bool) {
	t.Helper()
	if f, ok := statics.At(n); f != want || ok != is {
		t.Errorf("At(%d): %+v %v, wanted %+v %v", n, f, ok, want, is)
	}
}

func checkFind(t *testing.T, name, value string, want int, is bool) {
	t.Helper()
	if n, ok := statics.Find(name, value); n != want || ok != is {
		t.Errorf("Find(%q, %q): %d %v, wanted %d %v", name, value, n, ok, want, is)
	}
}

func TestP4_1Len(t *testing.T) {
	if n := statics.Len(); n != 61 {
		t.Error(n)
	}
}

// Each field has its name and value, and none of them is never to be kept.
func TestP4_1At(t *testing.T) {
	for _, r := range rows(t) {
		checkAt(t, r.number, api.Field{Name: r.name, Value: r.value}, true)
	}
}

// The first field and the last one, those beside where values end, and those that the chapter shows.
func TestP4_1AtKnown(t *testing.T) {
	checkAt(t, 1, api.Field{Name: ":authority"}, true)
	checkAt(t, 2, api.Field{Name: ":method", Value: "GET"}, true)
	checkAt(t, 14, api.Field{Name: ":status", Value: "500"}, true)
	checkAt(t, 15, api.Field{Name: "accept-charset"}, true)
	checkAt(t, 16, api.Field{Name: "accept-encoding", Value: "gzip, deflate"}, true)
	checkAt(t, 17, api.Field{Name: "accept-language"}, true)
	checkAt(t, 61, api.Field{Name: "www-authenticate"}, true)
}

func TestP4_1AtNone(t *testing.T) {
	for _, n := range noNumbers {
		checkAt(t, n, api.Field{}, false)
	}
	for far := range 1000 {
		checkAt(t, -far, api.Field{}, false)
		checkAt(t, statics.Len()+1+far, api.Field{}, false)
	}
}

// Whoever writes into an answer changes no other one.
func TestP4_1AtIsNew(t *testing.T) {
	f, _ := statics.At(2)
	f.Name, f.Value, f.Never = "x", "y", true
	checkAt(t, 2, api.Field{Name: ":method", Value: "GET"}, true)
	checkFind(t, ":method", "GET", 2, true)
	checkFind(t, "x", "y", 0, false)
}

// Each name with each value, and with values that no field has.
func TestP4_1Find(t *testing.T) {
	l := rows(t)
	values := []string{"", " ", "x", "201", "CONNECT", "get", "GET ", "/index", "httpss", "gzip", "gzip,deflate", "GET\x00", "\xff", strings.Repeat("2", 1<<16)}
	for _, r := range l {
		values = append(values, r.value, r.name)
	}
	for _, r := range l {
		for _, value := range values {
			n, ok := found(l, r.name, value)
			checkFind(t, r.name, value, n, ok)
		}
	}
}

func TestP4_1FindBoth(t *testing.T) {
	for _, c := range []struct {
		name, value string
		want        int
	}{
		{":authority", "", 1}, {":method", "GET", 2}, {":method", "POST", 3},
		{":path", "/", 4}, {":path", "/index.html", 5}, {":scheme", "http", 6}, {":scheme", "https", 7},
		{":status", "200", 8}, {":status", "204", 9}, {":status", "206", 10}, {":status", "304", 11}, {":status", "400", 12}, {":status", "404", 13}, {":status", "500", 14},
		{"accept-encoding", "gzip, deflate", 16}, {"accept", "", 19}, {"cookie", "", 32}, {"www-authenticate", "", 61},
	} {
		checkFind(t, c.name, c.value, c.want, true)
	}
}

// Of several fields with the name it is the first one, also where no field with that name has no value.
func TestP4_1FindName(t *testing.T) {
	for _, c := range []struct {
		name, value string
		want        int
	}{
		{":status", "201", 8}, {":status", "", 8}, {":status", "50", 8}, {":status", "5000", 8}, {":status", " 200", 8}, {":status", "0200", 8}, {":status", "GET", 8},
		{":method", "CONNECT", 2}, {":method", "", 2}, {":method", "get", 2}, {":method", "Post", 2}, {":method", "POST ", 2}, {":method", "200", 2},
		{":path", "", 4}, {":path", "/index.htm", 4}, {":path", "/chat", 4}, {":scheme", "HTTPS", 6}, {":scheme", "", 6}, {":scheme", "httpsx", 6},
		{":authority", "a", 1}, {":authority", " ", 1}, {":authority", "\x00", 1}, {"accept-encoding", "", 16}, {"accept-encoding", "gzip", 16}, {"accept-encoding", "gzip, deflate ", 16},
		{"accept-charset", "utf-8", 15}, {"accept", "gzip, deflate", 19}, {"cookie", "a=b", 32}, {"www-authenticate", "x", 61}, {"www-authenticate", strings.Repeat("x", 1<<16), 61},
	} {
		checkFind(t, c.name, c.value, c.want, false)
	}
}

// A name is told byte by byte: not by its letters' size, not by a part of it, not by a value.
func TestP4_1FindNone(t *testing.T) {
	names := []string{"", ":", " ", "\x00", "\xff", ":protocol", "sec-websocket-version", "x", "acce", "accept-", "acceptx", "if", "if-", "content", "status", "method", "authority", "::status", ":status:", "accept_charset", "accept charset", "200", "GET", "/", "gzip, deflate", strings.Repeat("a", 1<<16)}
	l := rows(t)
	for _, r := range l {
		names = append(names, strings.ToUpper(r.name), strings.ToUpper(r.name[:2])+r.name[2:], r.name[:1], r.name[1:], r.name+" ", " "+r.name, r.name+"\x00", r.name+r.name, r.name+": "+r.value, r.name[:len(r.name)-1]+"\xff")
	}
	for _, name := range names {
		if n, ok := found(l, name, ""); n != 0 || ok {
			t.Fatal(name, "is one")
		}
		for _, value := range []string{"", "200", "GET", "websocket", "gzip, deflate", name} {
			checkFind(t, name, value, 0, false)
		}
	}
}

// What is found of a field is its number, or a lower one with the same name and value, if there were one.
func TestP4_1ThereAndBack(t *testing.T) {
	for n := 1; n <= statics.Len(); n++ {
		f, ok := statics.At(n)
		if !ok {
			t.Fatal(n)
		}
		checkFind(t, f.Name, f.Value, n, true)
	}
}

// What is answered hangs on the arguments alone, not on what was asked before.
func TestP4_1Again(t *testing.T) {
	for range 3 {
		checkFind(t, ":status", "404", 13, true)
		checkFind(t, ":status", "201", 8, false)
		checkFind(t, "none", "404", 0, false)
		checkAt(t, 13, api.Field{Name: ":status", Value: "404"}, true)
		checkAt(t, 0, api.Field{}, false)
	}
}
