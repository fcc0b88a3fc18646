package dyntable_test

import (
	"math"
	"runtime"
	"slices"
	"strconv"
	"strings"
	"testing"
	"unsafe"

	"louver/api"
	"louver/dyntable"
	"louver/statics"
)

// model is a table as the chapter tells of it: the newest field first, its size summed up each time it is asked.
type model struct {
	fields []api.Field
	most   int
}

func (m *model) size() int {
	sum := 0
	for _, f := range m.fields {
		sum += len(f.Name + f.Value)
		sum += 32
	}
	return sum
}

// within lets the oldest field go as long as the size, with what is to come, is above the most.
func (m *model) within(coming int) {
	for len(m.fields) > 0 && m.size()+coming > m.most {
		m.fields = m.fields[:len(m.fields)-1]
	}
}

func (m *model) add(f api.Field) {
	f.Never = false
	m.within(32 + len(f.Name+f.Value))
	m.fields = append([]api.Field{f}, m.fields...)
	m.within(0)
}

func (m *model) limit(most uint32) {
	m.most = int(most)
	m.within(0)
}

// all are the fields by their numbers; number 0 has none.
func (m *model) all() []api.Field {
	l := make([]api.Field, 1, 62+len(m.fields))
	for n := range statics.Len() {
		f, _ := statics.At(n + 1)
		l = append(l, f)
	}
	return append(l, m.fields...)
}

// found is what Find has to answer of fields by their numbers: whole ones are looked for first, then names.
func found(l []api.Field, name, value string) (int, bool) {
	l = l[1:]
	if i := slices.Index(l, api.Field{Name: name, Value: value}); i >= 0 {
		return i + 1, true
	}
	return slices.IndexFunc(l, func(f api.Field) bool { return f.Name == name }) + 1, false
}

// noNumbers are numbers of no field, whatever a table has; most of them would be one if they lost their high bits.
var noNumbers = []int{0, -1, -2, -61, -62, -63, -1 << 32, -1<<32 + 62, 1<<32 + 62, 1<<32 + 2, 1 << 16, 1<<16 + 62, math.MaxInt16, math.MinInt16, math.MaxInt32, math.MinInt32, math.MinInt32 + 62, math.MaxInt, math.MaxInt - 1, math.MinInt, math.MinInt + 1, math.MinInt + 61, math.MinInt + 62, math.MinInt + 63}

// asked are fields that are looked for, whether a table has them or not.
var asked = []api.Field{
	{}, {Name: "a"}, {Name: "a", Value: "1"}, {Name: "b", Value: "1"}, {Name: "A", Value: "1"}, {Value: "a"}, {Name: "a", Value: "1 "},
	{Name: ":path", Value: "/"}, {Name: ":path", Value: "/x"}, {Name: ":path", Value: "/y"}, {Name: ":status", Value: "201"}, {Name: "cookie"}, {Name: "cookie", Value: "a=b"}, {Name: "\xff", Value: "\x00"},
}

// check holds all that a table answers against what it has to.
func check(t *testing.T, x *dyntable.Table, m *model) {
	t.Helper()
	if x.Size() != m.size() || x.Most() != m.most || x.Len() != len(m.fields) {
		t.Fatalf("size %d, most %d, %d fields, wanted %d, %d, %d", x.Size(), x.Most(), x.Len(), m.size(), m.most, len(m.fields))
	}
	l := m.all()
	for n := range len(l) + 3 {
		if n > 0 && n < len(l) {
			checkAt(t, x, n, l[n], true)
		} else {
			checkAt(t, x, n, api.Field{}, false)
		}
	}
	for _, f := range asked {
		n, ok := found(l, f.Name, f.Value)
		checkFind(t, x, f.Name, f.Value, n, ok)
	}
}

func checkAt(t *testing.T, x *dyntable.Table, n int, want api.Field, is bool) {
	t.Helper()
	if f, ok := x.At(n); f != want || ok != is {
		t.Fatalf("At(%d): %+v %v, wanted %+v %v", n, f, ok, want, is)
	}
}

func checkFind(t *testing.T, x *dyntable.Table, name, value string, want int, is bool) {
	t.Helper()
	if n, ok := x.Find(name, value); n != want || ok != is {
		t.Fatalf("Find(%.40q, %.40q): %d %v, wanted %d %v", name, value, n, ok, want, is)
	}
}

// checkNames holds the names of a table's fields, the newest first, and its size against what is wanted.
func checkNames(t *testing.T, x *dyntable.Table, size int, want ...string) {
	t.Helper()
	var got []string
	for i := range x.Len() {
		f, ok := x.At(62 + i)
		if !ok {
			t.Fatal(62 + i)
		}
		got = append(got, f.Name)
	}
	if _, ok := x.At(62 + x.Len()); ok || x.Size() != size || !slices.Equal(got, want) {
		t.Fatalf("%.40q of size %d, wanted %.40q of size %d", got, x.Size(), want, size)
	}
}

// table is a table with fields of these names and no values, the last one the newest.
func table(most uint32, names ...string) *dyntable.Table {
	x := dyntable.New(most)
	for _, name := range names {
		x.Add(api.Field{Name: name})
	}
	return x
}

// step is a call that may change a table.
type step struct {
	limits bool
	most   uint32
	field  api.Field
}

func (s step) do(x *dyntable.Table, m *model) {
	if s.limits {
		x.Limit(s.most)
		m.limit(s.most)
		return
	}
	x.Add(s.field)
	m.add(s.field)
}

func TestP5_1FieldSize(t *testing.T) {
	for _, c := range []struct {
		f    api.Field
		want int
	}{
		{api.Field{}, 32},
		{api.Field{Never: true}, 32},
		{api.Field{Name: "a"}, 33},
		{api.Field{Value: "a"}, 33},
		{api.Field{Name: "custom-key", Value: "custom-header"}, 55},
		{api.Field{Name: ":authority", Value: "www.example.com"}, 57},
		{api.Field{Name: "cookie", Value: "x", Never: true}, 39},
		{api.Field{Name: "é", Value: "\x00\xff"}, 36},
		{api.Field{Name: strings.Repeat("n", 1<<16), Value: strings.Repeat("v", 1<<17)}, 3<<16 + 32},
	} {
		if got := dyntable.Size(c.f); got != c.want {
			t.Errorf("%.40q: %d, wanted %d", c.f.Name, got, c.want)
		}
	}
}

func TestP5_1New(t *testing.T) {
	for _, most := range []uint32{0, 1, 31, 32, 33, 4095, api.MaxTable, api.MaxTable + 1, 1 << 16, math.MaxInt32, math.MaxInt32 + 1, math.MaxUint32} {
		x := dyntable.New(most)
		if x == nil {
			t.Fatal(most)
		}
		check(t, x, &model{most: int(most)})
	}
}

// Of a most of 80 two fields of 40 have room; a third one lets the first one go.
func TestP5_1Example(t *testing.T) {
	x := table(80, "number-1", "number-2")
	checkNames(t, x, 80, "number-2", "number-1")
	x.Add(api.Field{Name: "number-3"})
	checkNames(t, x, 80, "number-3", "number-2")
}

// The rows of RFC 7541, C.5: answers through a table of 256 bytes.
func TestP5_1Known(t *testing.T) {
	x := dyntable.New(256)
	for _, f := range []api.Field{{Name: ":status", Value: "302"}, {Name: "cache-control", Value: "private"}, {Name: "date", Value: "Mon, 21 Oct 2013 20:13:21 GMT"}, {Name: "location", Value: "https://www.example.com"}} {
		x.Add(f)
	}
	checkNames(t, x, 222, "location", "date", "cache-control", ":status")
	checkFind(t, x, ":status", "307", 8, false)
	x.Add(api.Field{Name: ":status", Value: "307"})
	checkNames(t, x, 222, ":status", "location", "date", "cache-control")
	checkFind(t, x, ":status", "307", 62, true)
	checkFind(t, x, "cache-control", "private", 65, true)
	for _, f := range []api.Field{{Name: "date", Value: "Mon, 21 Oct 2013 20:13:22 GMT"}, {Name: "content-encoding", Value: "gzip"}, {Name: "set-cookie", Value: "foo=ASDJKHQKBZXOQWEOPIUAXQWEOIU; max-age=3600; version=1"}} {
		x.Add(f)
	}
	checkNames(t, x, 215, "set-cookie", "content-encoding", "date")
	checkFind(t, x, "location", "https://www.example.com", 46, false)
}

// Never isn't kept, and isn't looked at.
func TestP5_1AddNever(t *testing.T) {
	x := dyntable.New(100)
	x.Add(api.Field{Name: "a", Value: "1", Never: true})
	x.Add(api.Field{Name: "b", Value: "2"})
	checkAt(t, x, 63, api.Field{Name: "a", Value: "1"}, true)
	checkAt(t, x, 62, api.Field{Name: "b", Value: "2"}, true)
	checkFind(t, x, "a", "1", 63, true)
}

// As many of the oldest go as have to, and not one more.
func TestP5_1AddRoom(t *testing.T) {
	for _, c := range []struct {
		name string
		size int
		want []string
	}{
		{"d", 33 * 4, []string{"d", "c", "b", "a"}},
		{"dd", 34 + 33*2, []string{"dd", "c", "b"}},
		{strings.Repeat("d", 34), 66 + 33*2, []string{strings.Repeat("d", 34), "c", "b"}},
		{strings.Repeat("d", 35), 67 + 33, []string{strings.Repeat("d", 35), "c"}},
		{strings.Repeat("d", 67), 99 + 33, []string{strings.Repeat("d", 67), "c"}},
		{strings.Repeat("d", 68), 100, []string{strings.Repeat("d", 68)}},
		{strings.Repeat("d", 100), 132, []string{strings.Repeat("d", 100)}},
		{strings.Repeat("d", 101), 0, nil},
		{strings.Repeat("d", 1<<20), 0, nil},
	} {
		checkNames(t, table(132, "a", "b", "c", c.name), c.size, c.want...)
	}
}

// One that alone is greater than the most empties the table; the next one has room again.
func TestP5_1AddGreat(t *testing.T) {
	for most := range uint32(100) {
		for bytes := range 70 {
			x := table(most, "", "a")
			f := api.Field{Name: strings.Repeat("n", bytes/2), Value: strings.Repeat("v", bytes-bytes/2)}
			x.Add(f)
			if 32+bytes > int(most) {
				checkNames(t, x, 0)
			} else {
				checkAt(t, x, 62, f, true)
			}
			x.Add(api.Field{})
			if most >= 32 {
				checkAt(t, x, 62, api.Field{}, true)
			} else {
				checkNames(t, x, 0)
			}
		}
	}
}

// A field without bytes has a size too, and one that is there comes in again.
func TestP5_1AddSame(t *testing.T) {
	x := table(32*3+1, "", "", "", "")
	checkNames(t, x, 96, "", "", "")
	checkFind(t, x, "", "", 62, true)
	x = table(100, "a", "a", "a", "a")
	checkNames(t, x, 99, "a", "a", "a")
	checkFind(t, x, "a", "", 62, true)
}

// What is known ahead comes in as others do; found it is by its lower number.
func TestP5_1AddKnown(t *testing.T) {
	x := dyntable.New(100)
	x.Add(api.Field{Name: ":method", Value: "GET"})
	checkAt(t, x, 62, api.Field{Name: ":method", Value: "GET"}, true)
	checkFind(t, x, ":method", "GET", 2, true)
}

// A field of the table may be that which it lets go.
func TestP5_1AddItsOwn(t *testing.T) {
	x := table(70, "old", "new")
	f, _ := x.At(63)
	x.Add(f)
	checkNames(t, x, 70, "old", "new")
	f, _ = x.At(62)
	f.Value = strings.Repeat("v", 35)
	x.Add(f)
	checkNames(t, x, 70, "old")
	checkAt(t, x, 62, f, true)
}

func TestP5_1At(t *testing.T) {
	x := table(api.MaxTable, "c", "b", "a")
	for n := 1; n <= 61; n++ {
		f, _ := statics.At(n)
		checkAt(t, x, n, f, true)
	}
	checkAt(t, x, 61, api.Field{Name: "www-authenticate"}, true)
	checkAt(t, x, 62, api.Field{Name: "a"}, true)
	checkAt(t, x, 64, api.Field{Name: "c"}, true)
	for _, n := range append([]int{65, 66, 127, 128, 255, 256, 256 + 62}, noNumbers...) {
		checkAt(t, x, n, api.Field{}, false)
	}
}

func TestP5_1Find(t *testing.T) {
	x := dyntable.New(api.MaxTable)
	for _, f := range []api.Field{{Name: "twice", Value: "1"}, {Name: "b", Value: "1"}, {Name: "twice", Value: "1"}, {Name: "b", Value: "2"}, {Name: ":status", Value: "201"}, {Name: "cookie"}, {Name: "b"}, {Name: "\xff\x00", Value: "\x00"}} {
		x.Add(f)
	}
	for _, c := range []struct {
		name, value string
		want        int
		is          bool
	}{
		// Whole ones: the lowest, also where a lower one has the name.
		{"twice", "1", 67, true},
		{"b", "", 63, true},
		{"b", "2", 66, true},
		{"b", "1", 68, true},
		{":status", "201", 65, true},
		{"\xff\x00", "\x00", 62, true},
		// What is known ahead has the lower numbers.
		{":status", "200", 8, true},
		{"cookie", "", 32, true},
		{":status", "202", 8, false},
		{"cookie", "x", 32, false},
		{":path", "/x", 4, false},
		// Names alone.
		{"twice", "", 67, false},
		{"twice", "2", 67, false},
		{"b", "3", 63, false},
		{"\xff\x00", "", 62, false},
		// None at all.
		{"", "", 0, false},
		{"", "1", 0, false},
		{"B", "1", 0, false},
		{"twic", "e1", 0, false},
		{"b1", "", 0, false},
		{"1", "b", 0, false},
		{"\xff", "\x00\x00", 0, false},
		{strings.Repeat("b", 1<<16), "1", 0, false},
	} {
		checkFind(t, x, c.name, c.value, c.want, c.is)
	}
}

// Numbers go on with each field that comes; what went isn't found any more.
func TestP5_1FindMoves(t *testing.T) {
	x := dyntable.New(33 * 5)
	x.Add(api.Field{Name: "x"})
	for n := 62; n < 67; n++ {
		checkFind(t, x, "x", "", n, true)
		checkFind(t, x, "x", "y", n, false)
		x.Add(api.Field{Name: "a"})
	}
	checkFind(t, x, "x", "", 0, false)
	checkFind(t, x, "x", "y", 0, false)
}

// A lower most lets the oldest go, as few as will do; a higher one brings none back.
func TestP5_1Limit(t *testing.T) {
	for _, c := range []struct {
		most uint32
		size int
		want []string
	}{
		{math.MaxUint32, 102, []string{"ccc", "bb", "a"}},
		{math.MaxInt32 + 1, 102, []string{"ccc", "bb", "a"}},
		{103, 102, []string{"ccc", "bb", "a"}},
		{102, 102, []string{"ccc", "bb", "a"}},
		{101, 69, []string{"ccc", "bb"}},
		{69, 69, []string{"ccc", "bb"}},
		{68, 35, []string{"ccc"}},
		{35, 35, []string{"ccc"}},
		{34, 0, nil},
		{1, 0, nil},
		{0, 0, nil},
	} {
		x := table(200, "a", "bb", "ccc")
		x.Limit(c.most)
		if x.Most() != int(c.most) {
			t.Fatal(c.most, x.Most())
		}
		checkNames(t, x, c.size, c.want...)
		x.Limit(c.most)
		checkNames(t, x, c.size, c.want...)
		x.Limit(200)
		if x.Most() != 200 {
			t.Fatal(c.most, x.Most())
		}
		checkNames(t, x, c.size, c.want...)
		x.Add(api.Field{Name: "d"})
		checkNames(t, x, c.size+33, append([]string{"d"}, c.want...)...)
	}
}

// What comes in behind a limit is held against the new most.
func TestP5_1LimitThenAdd(t *testing.T) {
	x := table(40, "a")
	x.Limit(66)
	x.Add(api.Field{Name: "b"})
	checkNames(t, x, 66, "b", "a")
	x.Limit(0)
	x.Add(api.Field{})
	checkNames(t, x, 0)
	x.Limit(32)
	x.Add(api.Field{})
	checkNames(t, x, 32, "")
	x.Limit(math.MaxUint32)
	x.Add(api.Field{Name: strings.Repeat("n", 1<<20)})
	checkNames(t, x, 1<<20+64, strings.Repeat("n", 1<<20), "")
}

func TestP5_1Nil(t *testing.T) {
	var x *dyntable.Table
	check(t, x, &model{})
	for _, n := range noNumbers {
		checkAt(t, x, n, api.Field{}, false)
	}
	x.Add(api.Field{Name: "a", Value: "1"})
	x.Limit(100)
	x.Add(api.Field{})
	x.Limit(0)
	check(t, x, &model{})
}

// What one table is told, another one doesn't know.
func TestP5_1Apart(t *testing.T) {
	x, y := table(100, "a"), table(100, "b")
	x.Add(api.Field{Name: "c"})
	y.Limit(40)
	checkNames(t, x, 66, "c", "a")
	checkNames(t, y, 33, "b")
	if x.Most() != 100 || y.Most() != 40 {
		t.Error(x.Most(), y.Most())
	}
}

// What is asked changes nothing, nor does writing into an answer.
func TestP5_1Asking(t *testing.T) {
	x, m := table(100, "a", "b"), &model{most: 100, fields: []api.Field{{Name: "b"}, {Name: "a"}}}
	for range 3 {
		f, _ := x.At(62)
		f.Name, f.Value, f.Never = "x", "y", true
		check(t, x, m)
	}
}

// Texts are kept as their bytes are when they come, whoever writes there later.
func TestP5_1AddKeepsNothing(t *testing.T) {
	b := []byte("name:value")
	x := dyntable.New(100)
	x.Add(api.Field{Name: unsafe.String(&b[0], 4), Value: unsafe.String(&b[5], 5)})
	copy(b, "NAME:VALUE")
	checkAt(t, x, 62, api.Field{Name: "name", Value: "value"}, true)
}

// held is how much memory is in use.
func held() uint64 {
	runtime.GC()
	var s runtime.MemStats
	runtime.ReadMemStats(&s)
	return s.HeapAlloc
}

// Fields that went aren't held.
func TestP5_1HoldsWhatIsThere(t *testing.T) {
	const great, many = 1 << 20, 64
	x := dyntable.New(math.MaxUint32)
	before := held()
	for i := range many {
		x.Add(api.Field{Name: "a", Value: strings.Repeat("v", great+i)})
	}
	x.Limit(2 * great)
	if after := held(); after > before+many/4*great {
		t.Error(before, after)
	}
	checkNames(t, x, great+many+32, "a")
}

// Nor are texts that a field is a small part of.
func TestP5_1HoldsNoGreatText(t *testing.T) {
	const great, many = 1 << 20, 32
	x := dyntable.New(math.MaxUint32)
	before := held()
	for range many {
		x.Add(api.Field{Name: "b", Value: strings.Repeat("w", great)[:1]})
		x.Add(api.Field{Name: strings.Repeat("w", great)[:1], Value: "b"})
	}
	if after := held(); after > before+many/4*great {
		t.Error(before, after)
	}
	if x.Len() != 2*many || x.Size() != 2*many*34 {
		t.Error(x.Len(), x.Size())
	}
}

// All rows of up to four calls, of tables of several mosts.
func TestP5_1Rows(t *testing.T) {
	steps := []step{
		{field: api.Field{Name: "a", Value: "1"}},
		{field: api.Field{Name: "a", Never: true}},
		{field: api.Field{}},
		{field: api.Field{Name: ":path", Value: "/x"}},
		{field: api.Field{Name: "a", Value: strings.Repeat("1", 40)}},
		{limits: true, most: 0},
		{limits: true, most: 34},
		{limits: true, most: 67},
		{limits: true, most: 150},
	}
	for _, most := range []uint32{0, 32, 34, 66, 100} {
		count := 1
		for length := range 5 {
			for row := range count {
				x, m := dyntable.New(most), &model{most: int(most)}
				for range length {
					steps[row%len(steps)].do(x, m)
					row /= len(steps)
				}
				check(t, x, m)
			}
			count *= len(steps)
		}
	}
}

// random makes numbers that look like chance, and are the same each time.
func random(state *uint32) int {
	*state = *state*1664525 + 1013904223
	return int(*state >> 12)
}

// A long row of calls: all answers are right behind each of them.
func TestP5_1LongRow(t *testing.T) {
	state := uint32(5)
	names := []string{"", "a", "b", ":path", "cookie", "\xff", "content-type", strings.Repeat("n", 100)}
	mosts := []uint32{0, 31, 33, 64, 100, 300, 1000, api.MaxTable, math.MaxUint32}
	x, m := dyntable.New(api.MaxTable), &model{most: api.MaxTable}
	for range 20000 {
		s := step{limits: random(&state)%20 == 0, most: mosts[random(&state)%len(mosts)]}
		s.field = api.Field{Name: names[random(&state)%len(names)], Value: strings.Repeat("1", random(&state)%4*(random(&state)%40)), Never: random(&state)%2 == 0}
		if m.most > api.MaxTable && len(m.fields) > 200 {
			s = step{limits: true, most: 500}
		}
		s.do(x, m)
		check(t, x, m)
	}
}

// The size is never above the most, and is the sum of what is there.
func TestP5_2Within(t *testing.T) {
	state := uint32(7)
	for most := uint32(0); most < 400; most += 3 {
		x := dyntable.New(most)
		for i := range 300 {
			if i%17 == 16 {
				x.Limit(uint32(random(&state)) % (most + 40))
			} else {
				x.Add(api.Field{Name: strconv.Itoa(i), Value: strings.Repeat("v", random(&state)%(i+1))})
			}
			sum := 0
			for n := range x.Len() {
				f, ok := x.At(62 + n)
				if !ok {
					t.Fatal(most, i, n)
				}
				sum += dyntable.Size(f)
			}
			if x.Size() > x.Most() || x.Size() != sum {
				t.Fatal(most, i, x.Size(), x.Most(), sum)
			}
		}
	}
}

// Great sizes are held against the most to the byte, too.
func TestP5_2Great(t *testing.T) {
	const great = 1 << 24
	x := dyntable.New(math.MaxUint32)
	value := strings.Repeat("v", great-32)
	for range 3 {
		x.Add(api.Field{Value: value})
	}
	if x.Size() != 3*great || x.Most() != math.MaxUint32 {
		t.Error(x.Size(), x.Most())
	}
	x.Limit(2 * great)
	checkNames(t, x, 2*great, "", "")
	x.Limit(2*great - 1)
	checkNames(t, x, great, "")
}
