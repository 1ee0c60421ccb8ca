package table

import (
	"math"
	"slices"
	"strings"
	"testing"

	"causey/api"
)

// row is a field.
func row(name, value string) api.Field { return api.Field{Name: name, Value: value} }

// of is a table of that Max, of fields whose names and values are given by turns, the newest first.
func of(most int, texts ...string) api.Table {
	t := api.Table{Max: most}
	for i := 0; i+1 < len(texts); i += 2 {
		t.Rows = append(t.Rows, row(texts[i], texts[i+1]))
	}
	return t
}

// alike holds two tables against each other by their parts.
func alike(a, b api.Table) bool { return a.Max == b.Max && slices.Equal(a.Rows, b.Rows) }

// brief is t with its texts cut short.
func brief(t api.Table) api.Table {
	o := api.Table{Max: t.Max}
	for i, f := range t.Rows {
		if i == 5 {
			break
		}
		o.Rows = append(o.Rows, row(f.Name[:min(len(f.Name), 12)], f.Value[:min(len(f.Value), 12)]))
	}
	return o
}

// adds holds what Add tells against what is asked.
func adds(t *testing.T, a api.Table, f api.Field, want api.Table, e api.Errno) {
	t.Helper()
	if o, oe := Add(a, f); !alike(o, want) || oe != e {
		t.Errorf("Add(%v, %d bytes): %v %d, not %v %d", brief(a), Size(f), brief(o), oe, brief(want), e)
	}
}

// resizes holds what Resize tells against what is asked.
func resizes(t *testing.T, a api.Table, most int, want api.Table, e api.Errno) {
	t.Helper()
	if o, oe := Resize(a, most); !alike(o, want) || oe != e {
		t.Errorf("Resize(%v, %d): %v %d, not %v %d", brief(a), most, brief(o), oe, brief(want), e)
	}
}

// stands holds what At tells against what is asked.
func stands(t *testing.T, a api.Table, i int, f api.Field, e api.Errno) {
	t.Helper()
	if o, oe := At(a, i); o != f || oe != e {
		t.Errorf("At(%v, %d): %q %d, not %q %d", brief(a), i, o, oe, f, e)
	}
}

// finds holds what Find tells against what is asked.
func finds(t *testing.T, a api.Table, f api.Field, i int, ok bool) {
	t.Helper()
	if oi, ook := Find(a, f); oi != i || ook != ok {
		t.Errorf("Find(%v, %q): %d %v, not %d %v", brief(a), f, oi, ook, i, ok)
	}
}

// statedRows are the chapter's static fields, from 1 on.
var statedRows = []api.Field{
	{Name: ":method", Value: "GET"}, {Name: ":method", Value: "POST"}, {Name: ":path", Value: "/"},
	{Name: ":scheme", Value: "http"}, {Name: ":scheme", Value: "https"},
	{Name: ":status", Value: "200"}, {Name: ":status", Value: "204"}, {Name: ":status", Value: "404"}, {Name: ":status", Value: "500"},
	{Name: "accept"}, {Name: "content-length"}, {Name: "content-type"}, {Name: "cookie"}, {Name: "date"}, {Name: "host"},
	{Name: "location"}, {Name: "priority"}, {Name: "priority", Value: "u=1"}, {Name: "server"}, {Name: "user-agent"},
}

// extremes are numbers that are none of any table.
var extremes = []int{math.MinInt, math.MinInt + 1, math.MinInt + 21, math.MinInt32, -21, -20, -1, 0, math.MaxInt32, math.MaxInt - 21, math.MaxInt - 1, math.MaxInt}

// slowFull goes through the chapter's words.
func slowFull(l []api.Field) int {
	all := 0
	for _, f := range l {
		all += len(f.Name) + len(f.Value) + 32
	}
	return all
}

// slowEvict drops the last field, as long as the size is above Max.
func slowEvict(most int, l []api.Field) api.Table {
	for slowFull(l) > most {
		l = l[:len(l)-1]
	}
	return api.Table{Max: most, Rows: l}
}

// slowAt is the field of an index, by the chapter's words.
func slowAt(a api.Table, i int) (api.Field, api.Errno) {
	all := slices.Concat(statedRows, a.Rows)
	if i < 1 || i > len(all) {
		return api.Field{}, api.ErrIndex
	}
	return all[i-1], api.OK
}

// slowFind goes through the chapter's sentence on Find.
func slowFind(a api.Table, f api.Field) (int, bool) {
	all := slices.Concat(statedRows, a.Rows)
	if i := slices.Index(all, f); i >= 0 {
		return i + 1, true
	}
	return slices.IndexFunc(all, func(g api.Field) bool { return g.Name == f.Name }) + 1, false
}

// mixed gives numbers that hang on a seed alone.
func mixed(seed uint32) func(below int) int {
	seed = seed*2654435761 + 12345
	return func(below int) int {
		seed = seed*1664525 + 1013904223
		return int(seed>>8) % below
	}
}

// someField is a field of few names and values, some of them static ones.
func someField(n func(int) int) api.Field {
	names := []string{"a", "b", "", "cookie", "priority", ":status", ":path", "x-" + strings.Repeat("n", n(60))}
	values := []string{"", "1", "2", "u=1", "204", "/", strings.Repeat("v", n(200))}
	return row(names[n(len(names))], values[n(len(values))])
}

// P9.1 to P9.3: the chapter's examples.
func TestExamples(t *testing.T) {
	a, e := New(100)
	for i, c := range []struct {
		f    api.Field
		size int
		rows []api.Field
	}{
		{row("a", "1"), 34, []api.Field{row("a", "1")}},
		{row("b", "2"), 68, []api.Field{row("b", "2"), row("a", "1")}},
		{row("c", "3"), 68, []api.Field{row("c", "3"), row("b", "2")}},
	} {
		if e != api.OK {
			t.Fatal(i, e)
		}
		adds(t, a, c.f, api.Table{Max: 100, Rows: c.rows}, api.OK)
		a, e = Add(a, c.f)
		if Full(a) != c.size {
			t.Errorf("%d: the size is %d, not %d", i, Full(a), c.size)
		}
	}
	finds(t, a, row(":method", "PUT"), 1, false)
	finds(t, a, row(":method", "POST"), 2, true)
}

// P9.1: the static fields, written out, and none beside them.
func TestStatic(t *testing.T) {
	for i, want := range statedRows {
		if f, ok := Static(i + 1); f != want || !ok {
			t.Errorf("Static(%d): %q %v, not %q", i+1, f, ok, want)
		}
	}
	for _, i := range append([]int{21, 22, 40, 256 + 1, 1<<32 + 1}, extremes...) {
		if f, ok := Static(i); f != (api.Field{}) || ok {
			t.Errorf("Static(%d): %q %v", i, f, ok)
		}
	}
}

// P9.1: a field's size is its bytes, and 32.
func TestSize(t *testing.T) {
	for _, c := range []struct {
		f    api.Field
		want int
	}{
		{api.Field{}, 32}, {row("a", "1"), 34}, {row("ab", ""), 34}, {row("", "abc"), 35}, {row("é", "\x00"), 35},
		{row("\xff\xfe", "\xff"), 35}, {row(":method", "GET"), 42}, {row(strings.Repeat("a", 5000), strings.Repeat("b", 70000)), 75032},
	} {
		if n := Size(c.f); n != c.want {
			t.Errorf("Size of %d and %d bytes: %d, not %d", len(c.f.Name), len(c.f.Value), n, c.want)
		}
	}
}

// P9.1: a table's size is its fields' together, of any table; the static ones count for nothing.
func TestFull(t *testing.T) {
	for i, c := range []struct {
		a    api.Table
		want int
	}{
		{api.Table{}, 0}, {of(100), 0}, {api.Table{Max: 100, Rows: []api.Field{}}, 0}, {of(100, "a", "1"), 34}, {of(100, "", ""), 32},
		{of(100, "a", "1", "a", "1"), 68}, {of(0, "a", "1"), 34}, {of(-5, "a", "1", "", "xyz"), 69}, {of(math.MinInt, "a", "1"), 34},
		{api.Table{Max: math.MaxInt, Rows: statedRows}, slowFull(statedRows)},
		{api.Table{Rows: make([]api.Field, 100000)}, 3200000},
	} {
		if n := Full(c.a); n != c.want {
			t.Errorf("%d: %d, not %d", i, n, c.want)
		}
	}
}

// P9.1: a table may be, if Max is from 0 to MaxTable, and its size is at most Max.
func TestRight(t *testing.T) {
	for i, c := range []struct {
		a    api.Table
		want bool
	}{
		{api.Table{}, true}, {api.Table{Rows: []api.Field{}}, true}, {of(1), true}, {of(4095), true}, {of(4096), true}, {of(4097), false},
		{of(-1), false}, {of(math.MinInt), false}, {of(math.MaxInt), false}, {of(math.MaxInt, "a", "1"), false}, {of(1 << 32), false},
		{of(31, "", ""), false}, {of(32, "", ""), true}, {of(33, "", ""), true}, {of(0, "", ""), false}, {of(-1, "", ""), false},
		{of(33, "a", "1"), false}, {of(34, "a", "1"), true}, {of(67, "a", "1", "b", "2"), false}, {of(68, "a", "1", "b", "2"), true},
		{of(68, "a", "1", "a", "1"), true}, {of(4096, "", strings.Repeat("v", 4064)), true}, {of(4096, "", strings.Repeat("v", 4065)), false},
		{of(4096, "n", strings.Repeat("v", 4064)), false}, {of(4097, "", strings.Repeat("v", 4065)), false},
		{api.Table{Max: 4096, Rows: make([]api.Field, 128)}, true}, {api.Table{Max: 4096, Rows: make([]api.Field, 129)}, false},
		{api.Table{Max: 4095, Rows: make([]api.Field, 128)}, false}, {api.Table{Max: 4096, Rows: make([]api.Field, 1<<17)}, false},
	} {
		if ok := Right(c.a); ok != c.want {
			t.Errorf("%d: %v", i, ok)
		}
	}
}

// P9.1: tables are the same, if they are so in all: Max, and the fields in order; nil and empty mean the same.
func TestSame(t *testing.T) {
	same := [][]api.Table{
		{of(100), {Max: 100, Rows: []api.Field{}}, {Max: 100, Rows: make([]api.Field, 0, 9)}},
		{of(0), {}}, {of(-3)}, {of(101)}, {of(-3, "a", "1")}, {of(math.MaxInt)},
		{of(100, "a", "1"), {Max: 100, Rows: append(make([]api.Field, 0, 9), row("a", "1"))}},
		{of(101, "a", "1")}, {of(100, "a", "2")}, {of(100, "b", "1")}, {of(100, "", "a1")}, {of(100, "a1", "")}, {of(100, "1", "a")}, {of(100, "", "")},
		{of(100, "a", "1", "a", "1")}, {of(100, "a", "1", "b", "2")}, {of(100, "b", "2", "a", "1")}, {of(100, "a", "1", "b", "3")}, {of(100, "a", "1", "", "")},
		{of(100, "a", "1", "b", "2", "c", "3")}, {of(100, "a", "1", "b", "2", "c", "4")}, {of(100, "a", "1", "x", "2", "c", "3")},
	}
	for i, l := range same {
		for j, m := range same {
			for _, a := range l {
				for _, b := range m {
					if Same(a, b) != (i == j) {
						t.Errorf("Same(%v, %v): %v", a, b, i != j)
					}
				}
			}
		}
	}
}

// P9.2: New is an empty table, of a Max that may be.
func TestNew(t *testing.T) {
	for _, most := range []int{0, 1, 31, 32, 100, 4095, 4096} {
		a, e := New(most)
		if a.Max != most || len(a.Rows) != 0 || e != api.OK || !Right(a) || Full(a) != 0 {
			t.Errorf("New(%d): %v %d", most, a, e)
		}
	}
	for _, most := range []int{-1, -4096, 4097, 8192, math.MaxInt32, math.MaxInt, math.MinInt, 1 << 32, 1<<32 + 5} {
		a, e := New(most)
		if a.Max != 0 || len(a.Rows) != 0 || e != api.ErrArg {
			t.Errorf("New(%d): %v %d", most, a, e)
		}
	}
}

// P9.2, P9.4: a field stands ahead of all; the last ones are dropped, as many as need be and no more.
func TestAdd(t *testing.T) {
	adds(t, of(0), row("a", "1"), of(0), api.OK)
	adds(t, of(0), api.Field{}, of(0), api.OK)
	adds(t, of(31), api.Field{}, of(31), api.OK)
	adds(t, of(32), api.Field{}, of(32, "", ""), api.OK)
	adds(t, of(33), row("a", "1"), of(33), api.OK)
	adds(t, of(34), row("a", "1"), of(34, "a", "1"), api.OK)
	adds(t, of(34, "a", "1"), row("b", "2"), of(34, "b", "2"), api.OK)
	adds(t, of(67, "a", "1"), row("b", "2"), of(67, "b", "2"), api.OK)
	adds(t, of(68, "a", "1"), row("b", "2"), of(68, "b", "2", "a", "1"), api.OK)
	adds(t, of(68, "a", "1"), row("a", "1"), of(68, "a", "1", "a", "1"), api.OK)
	adds(t, of(102, "a", "1", "b", "2", "c", "3"), row("d", "45"), of(102, "d", "45", "a", "1"), api.OK)
	adds(t, of(102, "a", "1", "b", "2", "c", "3"), row("d", strings.Repeat("4", 36)), of(102, "d", strings.Repeat("4", 36)), api.OK)
	adds(t, of(102, "a", "1", "b", "2", "c", "3"), row("d", strings.Repeat("4", 35)), of(102, "d", strings.Repeat("4", 35), "a", "1"), api.OK)
	// What no longer fits is dropped with all that is older, though that were smaller.
	adds(t, of(120, "a", strings.Repeat("1", 17), "", "", "c", "3"), row("d", "4"), of(120, "d", "4", "a", strings.Repeat("1", 17), "", ""), api.OK)
	adds(t, of(117, "a", strings.Repeat("1", 17), "", "", "c", "3"), row("d", strings.Repeat("4", 35)), of(117, "d", strings.Repeat("4", 35)), api.OK)
	adds(t, of(118, "a", strings.Repeat("1", 17), "", "", "c", "3"), row("d", strings.Repeat("4", 35)), of(118, "d", strings.Repeat("4", 35), "a", strings.Repeat("1", 17)), api.OK)
	// A static field, and one of its name, are added as any other.
	adds(t, of(100), row(":method", "GET"), of(100, ":method", "GET"), api.OK)
	adds(t, of(4096), row("cookie", ""), of(4096, "cookie", ""), api.OK)
}

// P9.2: a field whose size is above Max leaves the table empty.
func TestAddTooGreat(t *testing.T) {
	for _, n := range []int{67, 68, 69, 4064, 4065, 70000} {
		want := of(100)
		if n <= 68 {
			want = of(100, "", strings.Repeat("v", n))
		}
		adds(t, of(100), row("", strings.Repeat("v", n)), want, api.OK)
		adds(t, of(100, "a", "1"), row("", strings.Repeat("v", n)), want, api.OK)
		adds(t, of(100, "a", "1", "b", "2"), row("", strings.Repeat("v", n)), want, api.OK)
		want = of(4096)
		if n <= 4064 {
			want = of(4096, strings.Repeat("n", n), "")
		}
		adds(t, of(4096, "a", strings.Repeat("1", 4000)), row(strings.Repeat("n", n), ""), want, api.OK)
	}
	full := api.Table{Max: 4096, Rows: make([]api.Field, 128)}
	adds(t, full, row("", strings.Repeat("v", 4065)), of(4096), api.OK)
	adds(t, full, row("", strings.Repeat("v", 4064)), of(4096, "", strings.Repeat("v", 4064)), api.OK)
	adds(t, full, row("", "v"), api.Table{Max: 4096, Rows: append([]api.Field{row("", "v")}, make([]api.Field, 126)...)}, api.OK)
}

// wrongs are tables that may not be.
func wrongs() []api.Table {
	return []api.Table{
		of(-1), of(4097), of(math.MinInt), of(math.MaxInt), of(-1, "a", "1"), of(4097, "a", "1"), of(31, "", ""), of(0, "a", "1"),
		of(67, "a", "1", "b", "2"), of(4096, "", strings.Repeat("v", 4065)), {Max: 4096, Rows: make([]api.Field, 129)},
	}
}

// P9.2: of a table that may not be nothing is told, though what would be made of it might be.
func TestAddWrong(t *testing.T) {
	for _, a := range wrongs() {
		for _, f := range []api.Field{{}, row("a", "1"), row("a", strings.Repeat("v", 5000))} {
			adds(t, a, f, api.Table{}, api.ErrArg)
		}
		for _, most := range []int{0, 34, 100, 4096, -1, 4097, math.MinInt, math.MaxInt} {
			resizes(t, a, most, api.Table{}, api.ErrArg)
		}
	}
}

// P9.2, P9.4: another Max drops the last ones, as many as need be and no more.
func TestResize(t *testing.T) {
	a := of(200, "a", "1", "b", "22", "", "", "d", "4")
	for _, c := range []struct{ most, many int }{
		{0, 0}, {1, 0}, {33, 0}, {34, 1}, {35, 1}, {68, 1}, {69, 2}, {100, 2}, {101, 3}, {134, 3}, {135, 4}, {136, 4}, {200, 4}, {201, 4}, {4095, 4}, {4096, 4},
	} {
		resizes(t, a, c.most, api.Table{Max: c.most, Rows: a.Rows[:c.many]}, api.OK)
		resizes(t, of(50), c.most, of(c.most), api.OK)
	}
	for _, most := range []int{-1, -4096, 4097, math.MinInt, math.MaxInt, math.MaxInt32, 1 << 32, 1<<32 + 200} {
		resizes(t, a, most, api.Table{}, api.ErrArg)
		resizes(t, of(0), most, api.Table{}, api.ErrArg)
	}
	// A lesser field behind one that is dropped is dropped too.
	b := of(300, "a", "1", "b", strings.Repeat("2", 100), "", "")
	resizes(t, b, 99, of(99, "a", "1"), api.OK)
	resizes(t, b, 166, of(166, "a", "1"), api.OK)
	resizes(t, b, 167, of(167, "a", "1", "b", strings.Repeat("2", 100)), api.OK)
	resizes(t, b, 33, of(33), api.OK)
	// What was dropped does not come again.
	c, _ := Resize(a, 68)
	resizes(t, c, 200, of(200, "a", "1"), api.OK)
}

// P9.3: the static fields, then the table's, the newest first, of any table; else nothing.
func TestAt(t *testing.T) {
	tables := append(wrongs(), of(0), of(100), of(100, "a", "1"), of(200, "a", "1", "b", "2", ":method", "GET"))
	for _, a := range tables {
		for i, f := range statedRows {
			stands(t, a, i+1, f, api.OK)
		}
		for i, f := range a.Rows {
			stands(t, a, 21+i, f, api.OK)
		}
		for _, i := range append([]int{21 + len(a.Rows), 22 + len(a.Rows), 1<<32 + 21}, extremes...) {
			stands(t, a, i, api.Field{}, api.ErrIndex)
		}
	}
	stands(t, of(100), 20, row("user-agent", ""), api.OK)
	stands(t, of(100), 21, api.Field{}, api.ErrIndex)
	stands(t, of(100, "a", "1"), 21, row("a", "1"), api.OK)
	stands(t, of(100, "a", "1"), 22, api.Field{}, api.ErrIndex)
	stands(t, of(100, "a", "1", "b", "2"), 22, row("b", "2"), api.OK)
	stands(t, of(100, "", ""), 21, api.Field{}, api.OK)
}

// P9.3: the least index of the very field; else that of the name, static ones ahead of the table's; else none.
func TestFind(t *testing.T) {
	for i, f := range statedRows {
		finds(t, of(0), f, i+1, true)
	}
	a := of(1000, "x", "1", "y", "2", "x", "3", "cookie", "c", "x", "1", "accept", "", ":status", "418", "priority", "u=1", "", "")
	for _, c := range []struct {
		name, value string
		i           int
		ok          bool
	}{
		{"x", "1", 21, true}, {"x", "3", 23, true}, {"x", "2", 21, false}, {"x", "", 21, false}, {"y", "2", 22, true}, {"y", "1", 22, false},
		{"cookie", "", 13, true}, {"cookie", "c", 24, true}, {"cookie", "d", 13, false}, {"accept", "", 10, true}, {"accept", "z", 10, false},
		{":status", "418", 27, true}, {":status", "204", 7, true}, {":status", "205", 6, false}, {":status", "", 6, false},
		{"priority", "u=1", 18, true}, {"priority", "", 17, true}, {"priority", "u=2", 17, false},
		{"", "", 29, true}, {"", "a", 29, false}, {"z", "1", 0, false}, {"X", "1", 0, false}, {"x ", "1", 0, false}, {"1", "x", 0, false},
		{":path", "/", 3, true}, {":path", "/a", 3, false}, {":scheme", "ftp", 4, false}, {":method", "PUT", 1, false}, {":method", "get", 1, false},
		{":metho", "dGET", 0, false}, {":authority", "", 0, false}, {"user-agent", "x", 20, false}, {"server", "", 19, true},
	} {
		finds(t, a, row(c.name, c.value), c.i, c.ok)
	}
	finds(t, of(0), api.Field{}, 0, false)
	finds(t, api.Table{}, row("x", "1"), 0, false)
}

// P9.3: fields are found in any table, one that may not be, too.
func TestFindAny(t *testing.T) {
	for _, a := range wrongs() {
		for i, f := range statedRows {
			finds(t, a, f, i+1, true)
		}
		for _, f := range append([]api.Field{row("a", "2"), row("b", "1"), row("b", "2"), {}, row("", "x"), row("zz", "")}, a.Rows...) {
			i, ok := slowFind(a, f)
			finds(t, a, f, i, ok)
		}
	}
	many := api.Table{Max: -1, Rows: make([]api.Field, 50000)}
	many.Rows[49999] = row("end", "")
	finds(t, many, row("end", ""), 50020, true)
	finds(t, many, row("end", "x"), 50020, false)
	finds(t, many, api.Field{}, 21, true)
	finds(t, many, row("", "x"), 21, false)
}

// P9.1 to P9.4: tables that go through many fields and sizes, held against a second reading of the chapter at each step.
func TestGoneThrough(t *testing.T) {
	for seed := range uint32(300) {
		n := mixed(seed)
		a, _ := New(n(700))
		want := a
		for range 60 {
			if n(6) == 0 {
				most := n(700)
				a, _ = Resize(a, most)
				want = slowEvict(most, want.Rows)
			} else {
				f := someField(n)
				a, _ = Add(a, f)
				want = slowEvict(want.Max, slices.Concat([]api.Field{f}, want.Rows))
			}
			if !alike(a, want) || !Right(a) || Full(a) != slowFull(want.Rows) || !Same(a, want) {
				t.Fatalf("seed %d: %v, not %v", seed, brief(a), brief(want))
			}
			for i := -1; i < len(a.Rows)+23; i++ {
				f, e := slowAt(want, i)
				stands(t, a, i, f, e)
				if e == api.OK {
					i, ok := slowFind(want, f)
					finds(t, a, f, i, ok)
				}
			}
			f := someField(n)
			i, ok := slowFind(want, f)
			finds(t, a, f, i, ok)
		}
	}
}

// P9.4: what was added is the newest one, if it fits; all others are as they stood, one further behind, or dropped, the eldest first.
func TestOneFurther(t *testing.T) {
	for seed := range uint32(200) {
		n := mixed(seed)
		a, _ := New(n(4097))
		for range 80 {
			f := someField(n)
			b, e := Add(a, f)
			if e != api.OK || !Right(b) || b.Max != a.Max {
				t.Fatalf("seed %d: %v %d", seed, brief(b), e)
			}
			first, e := At(b, 21)
			if Size(f) > a.Max {
				if len(b.Rows) != 0 || e != api.ErrIndex {
					t.Fatalf("seed %d: %v is left", seed, brief(b))
				}
			} else if first != f || e != api.OK {
				t.Fatalf("seed %d: %q is first, not %q", seed, first, f)
			}
			for i := 22; i < 21+len(b.Rows); i++ {
				x, _ := At(a, i-1)
				stands(t, b, i, x, api.OK)
			}
			// No field is dropped that would have fitted.
			if k := len(b.Rows); k > 0 && k <= len(a.Rows) && Full(b)+Size(a.Rows[k-1]) <= a.Max {
				t.Fatalf("seed %d: %v has room for %q", seed, brief(b), a.Rows[k-1])
			}
			a = b
		}
	}
}

// P9.1 to P9.3 (R4): what is handed in is not changed, nor the room behind it; what is told stands in memory of its own.
func TestMemory(t *testing.T) {
	mark := row("mark", "m")
	all := []api.Field{row("a", "1"), row("b", "2"), mark, mark, mark}
	a := api.Table{Max: 4096, Rows: all[:2]}
	look := func(what string) {
		t.Helper()
		if !slices.Equal(all, []api.Field{row("a", "1"), row("b", "2"), mark, mark, mark}) {
			t.Fatalf("%s changed what it was handed: %v", what, all)
		}
	}
	made := []api.Table{}
	for _, c := range []struct {
		what string
		call func() (api.Table, api.Errno)
	}{
		{"Add", func() (api.Table, api.Errno) { return Add(a, row("c", "3")) }},
		{"Resize", func() (api.Table, api.Errno) { return Resize(a, 68) }},
		{"Resize to less", func() (api.Table, api.Errno) { return Resize(a, 34) }},
		{"Resize to the same", func() (api.Table, api.Errno) { return Resize(a, 4096) }},
	} {
		o, e := c.call()
		if e != api.OK {
			t.Fatal(c.what, e)
		}
		look(c.what)
		for i := range o.Rows[:cap(o.Rows)] {
			o.Rows[:cap(o.Rows)][i] = row("changed", "")
		}
		look("what came of " + c.what)
		again, _ := c.call()
		made = append(made, again)
	}
	for i := range all {
		all[i] = row("later", "")
	}
	for i, want := range []api.Table{of(4096, "c", "3", "a", "1", "b", "2"), of(68, "a", "1", "b", "2"), of(34, "a", "1"), of(4096, "a", "1", "b", "2")} {
		if !alike(made[i], want) {
			t.Errorf("%d: %v is kept", i, made[i])
		}
	}
	// Two answers share nothing, and the static fields stay.
	x, _ := Add(made[3], mark)
	y, _ := Add(made[3], row("other", ""))
	x.Rows[0], x.Rows[1] = row("", ""), row("", "")
	if !alike(y, of(4096, "other", "", "a", "1", "b", "2")) {
		t.Errorf("two answers share memory: %v", y)
	}
	f, _ := Static(1)
	f.Value = "changed"
	finds(t, made[3], row(":method", "GET"), 1, true)
}

// R3: calls answer the same, whatever was called ahead of them.
func TestSameAgain(t *testing.T) {
	a := of(300, "x", "1", "y", "2", "x", "3", "x", "1")
	first, _ := Add(a, row("z", "9"))
	for range 50 {
		for i := range 30 {
			_, _ = At(a, i)
			Find(a, row("x", strings.Repeat("9", i)))
		}
		_, _ = New(5)
		if o, e := Add(a, row("z", "9")); !alike(o, first) || e != api.OK {
			t.Fatalf("%v %d, not %v", o, e, first)
		}
		finds(t, a, row("x", "1"), 21, true)
		finds(t, a, row("x", "4"), 21, false)
	}
}
