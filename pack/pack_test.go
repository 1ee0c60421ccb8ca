package pack

import (
	"bytes"
	"fmt"
	"math"
	"slices"
	"strings"
	"testing"

	"causey/api"
	"causey/prefix"
	"causey/table"
	"causey/text"
	"causey/unpack"
)

// row is a field.
func row(name, value string) api.Field { return api.Field{Name: name, Value: value} }

// list is fields whose names and values are given by turns.
func list(texts ...string) []api.Field {
	var l []api.Field
	for i := 0; i+1 < len(texts); i += 2 {
		l = append(l, row(texts[i], texts[i+1]))
	}
	return l
}

// tableOf is a table of that Max, of fields whose names and values are given by turns, the newest first.
func tableOf(most int, texts ...string) api.Table { return api.Table{Max: most, Rows: list(texts...)} }

// alike holds two tables against each other by their parts.
func alike(a, b api.Table) bool { return a.Max == b.Max && slices.Equal(a.Rows, b.Rows) }

// brief is s, or its beginning and its end.
func brief(s string) string {
	if len(s) <= 60 {
		return s
	}
	return s[:30] + ".." + s[len(s)-30:]
}

// short is fields told in a text, the first six, with their texts cut short.
func short(l []api.Field) string {
	o := fmt.Sprintf("%d fields", len(l))
	for _, f := range l[:min(len(l), 6)] {
		o += fmt.Sprintf(" %q=%q", brief(f.Name), brief(f.Value))
	}
	return o
}

// shortTable is a table told in a text.
func shortTable(t api.Table) string { return fmt.Sprintf("[Max %d, %s]", t.Max, short(t.Rows)) }

// told holds an answer against what is asked.
func told(t *testing.T, what string, b []byte, behind api.Table, e api.Errno, want string, wantBehind api.Table) {
	t.Helper()
	if string(b) != want || !alike(behind, wantBehind) || e != api.OK {
		t.Errorf("%s: %x %s %d, not %x %s", what, brief(string(b)), shortTable(behind), e, brief(want), shortTable(wantBehind))
	}
}

// puts holds what Field and Block tell of one field against what is asked.
func puts(t *testing.T, a api.Table, f api.Field, want string, behind api.Table) {
	t.Helper()
	b, o, e := Field(a, f)
	told(t, "Field("+shortTable(a)+", "+short([]api.Field{f})+")", b, o, e, want, behind)
	b, o, e = Block(a, []api.Field{f})
	told(t, "Block("+shortTable(a)+", "+short([]api.Field{f})+")", b, o, e, want, behind)
}

// blocks holds what Block tells against what is asked.
func blocks(t *testing.T, a api.Table, l []api.Field, want string, behind api.Table) {
	t.Helper()
	b, o, e := Block(a, l)
	told(t, "Block("+shortTable(a)+", "+short(l)+")", b, o, e, want, behind)
}

// sizes holds what Sized tells against what is asked.
func sizes(t *testing.T, a api.Table, most int, l []api.Field, want string, behind api.Table) {
	t.Helper()
	b, o, e := Sized(a, most, l)
	told(t, fmt.Sprintf("Sized(%s, %d, %s)", shortTable(a), most, short(l)), b, o, e, want, behind)
}

// nothing holds that an answer is that error, and nothing else.
func nothing(t *testing.T, what string, b []byte, behind api.Table, e api.Errno) {
	t.Helper()
	if len(b) != 0 || behind.Max != 0 || len(behind.Rows) != 0 || e != api.ErrArg {
		t.Errorf("%s: %x %s %d, not 2 alone", what, brief(string(b)), shortTable(behind), e)
	}
}

// best is texts by their best bytes, one behind the other.
func best(texts ...string) string {
	var b strings.Builder
	for _, s := range texts {
		b.Write(text.Best(s))
	}
	return b.String()
}

// size is a field's size, by the chapter's words.
func size(f api.Field) int { return len(f.Name) + len(f.Value) + 32 }

// reading is a second reading of the chapter: slow, with the table as a list alone.
type reading struct {
	rows []api.Field
	max  int
	b    []byte
}

// evict drops the last field, as long as the size is above Max.
func (r *reading) evict() {
	for {
		all := 0
		for _, f := range r.rows {
			all += size(f)
		}
		if all <= r.max {
			return
		}
		r.rows = r.rows[:len(r.rows)-1]
	}
}

// known is the least index of f, and the least one of its name; 0 where there is none.
func (r *reading) known(f api.Field) (whole, name int) {
	for i := 20 + len(r.rows); i > 0; i-- {
		g, ok := table.Static(i)
		if !ok {
			g = r.rows[i-21]
		}
		if g.Name == f.Name {
			name = i
		}
		if g == f {
			whole = i
		}
	}
	return whole, name
}

// number puts a number behind the upper bits that are given.
func (r *reading) number(n, bits int, upper byte) {
	b, _ := prefix.Put(n, bits, upper)
	r.b = append(r.b, b...)
}

// one puts a field.
func (r *reading) one(f api.Field) {
	whole, name := r.known(f)
	if whole != 0 {
		r.number(whole, 7, 0x80)
		return
	}
	added := f.Name != "cookie" && size(f) <= r.max
	switch {
	case f.Name == "cookie":
		r.number(name, 4, 0x10)
	case added:
		r.number(name, 6, 0x40)
	default:
		r.number(name, 4, 0)
	}
	if name == 0 {
		r.b = append(r.b, text.Best(f.Name)...)
	}
	r.b = append(r.b, text.Best(f.Value)...)
	if added {
		r.rows = slices.Concat([]api.Field{f}, r.rows)
		r.evict()
	}
}

// slowBlock goes through the chapter's words; the table may be. A most below 0 is none.
func slowBlock(a api.Table, most int, l []api.Field) ([]byte, api.Table) {
	r := reading{rows: slices.Clone(a.Rows), max: a.Max}
	if most >= 0 {
		r.number(most, 5, 0x20)
		r.max = most
		r.evict()
	}
	for _, f := range l {
		r.one(f)
	}
	return r.b, api.Table{Max: r.max, Rows: r.rows}
}

// asRead holds what Block or Sized tells against the second reading, and against what the bytes tell when they are taken apart.
func asRead(t *testing.T, a api.Table, most int, l []api.Field) ([]byte, api.Table) {
	t.Helper()
	b, behind, e := Block(a, l)
	if most >= 0 {
		b, behind, e = Sized(a, most, l)
	}
	want, wantBehind := slowBlock(a, most, l)
	if !bytes.Equal(b, want) || !alike(behind, wantBehind) || e != api.OK {
		t.Fatalf("%s, %d, %s: %x %s %d, not %x %s", shortTable(a), most, short(l), b, shortTable(behind), e, want, shortTable(wantBehind))
	}
	o, e := unpack.Block(a, api.MaxTable, b)
	if e != api.OK || !alike(o.Table, behind) {
		t.Fatalf("%s, %d, %s: taken apart %s %d, not %s", shortTable(a), most, short(l), shortTable(o.Table), e, shortTable(behind))
	}
	if !o.Long && !slices.Equal(o.List, l) || o.Long && unpack.Size(l) <= api.MaxList {
		t.Fatalf("%s, %d, %s: taken apart %s", shortTable(a), most, short(l), short(o.List))
	}
	return b, behind
}

// mixed gives numbers that hang on a seed alone.
func mixed(seed uint32) func(below int) int {
	seed = seed*2654435761 + 12345
	return func(below int) int {
		seed = seed*1664525 + 1013904223
		return int(seed>>8) % below
	}
}

// someField is a field of few names and values, some of them static ones.
func someField(n func(int) int) api.Field {
	names := []string{"a", "b", "", "cookie", "Cookie", "priority", ":status", ":path", "\x00\xff", "x-" + strings.Repeat("n", n(60))}
	values := []string{"", "1", "2", "u=1", "204", "/", "é", strings.Repeat("v", n(200)), strings.Repeat("\x80", n(40))}
	return row(names[n(len(names))], values[n(len(values))])
}

// someList is a few fields, some of them twice.
func someList(n func(int) int) []api.Field {
	var l []api.Field
	for range n(9) {
		f := someField(n)
		l = append(l, f)
		if n(3) == 0 {
			l = append(l, l[n(len(l))])
		}
	}
	return l
}

// someTable is a table of a few fields.
func someTable(n func(int) int) api.Table {
	a, _ := table.New([]int{0, 33, 40, 100, 300, 1000, 4096}[n(7)])
	for range n(8) {
		a, _ = table.Add(a, someField(n))
	}
	return a
}

// P11.1, P11.2: the chapter's example, field by field and as one.
func TestExamples(t *testing.T) {
	puts(t, tableOf(100), row(":method", "GET"), "\x81", tableOf(100))
	puts(t, tableOf(100), row("a", "1"), "\x40\x01a\x011", tableOf(100, "a", "1"))
	puts(t, tableOf(100, "a", "1"), row("a", "1"), "\x95", tableOf(100, "a", "1"))
	blocks(t, tableOf(100), list(":method", "GET", "a", "1", "a", "1"), "\x81\x40\x01a\x011\x95", tableOf(100, "a", "1"))
}

// P11.1: a field is secret by its name alone.
func TestSecret(t *testing.T) {
	for _, v := range []string{"", "1", "cookie", "a=b", "\xff"} {
		if !Secret(row("cookie", v)) {
			t.Errorf("cookie %q is not secret", v)
		}
	}
	for _, n := range []string{"", "a", "Cookie", "COOKIE", "cooki", "cookie2", " cookie", "cookie ", "set-cookie", "cookie\x00", "cookiecookie", ":cookie", "authorization", "c", "ookie"} {
		for _, v := range []string{"", "1", "cookie"} {
			if Secret(row(n, v)) {
				t.Errorf("%q %q is secret", n, v)
			}
		}
	}
}

// P11.1: a field that is known is its index: each static one, then the table's, the least index of those alike.
func TestKnown(t *testing.T) {
	a := tableOf(300, "n", "new", ":path", "/x", "n", "old", "n", "new", "cookie", "c")
	for i := 1; i <= 20; i++ {
		f, _ := table.Static(i)
		for _, b := range []api.Table{tableOf(0), tableOf(100), a, tableOf(100, f.Name, f.Value)} {
			puts(t, b, f, string([]byte{0x80 + byte(i)}), b)
		}
	}
	puts(t, a, row("n", "new"), "\x95", a)
	puts(t, a, row(":path", "/x"), "\x96", a)
	puts(t, a, row("n", "old"), "\x97", a)
	// A secret field that a table holds all the same is its index too.
	puts(t, a, row("cookie", "c"), "\x99", a)
	// Great indexes, in more than one byte: a table has 128 fields at most, and the last one is 148.
	var many api.Table
	many.Max = 4096
	for i := range 119 {
		many.Rows = append(many.Rows, row(string([]byte{byte(i)}), ""))
	}
	for i, want := range map[int]string{0: "\x95", 1: "\x96", 105: "\xfe", 106: "\xff\x00", 107: "\xff\x01", 118: "\xff\x0c"} {
		puts(t, many, many.Rows[i], want, many)
	}
	empty := api.Table{Max: 4096, Rows: make([]api.Field, 128)}
	puts(t, empty, row("", ""), "\x95", empty)
	empty.Rows = append(make([]api.Field, 126), row("z", ""))
	puts(t, empty, row("z", ""), "\xff\x14", empty)
}

// P11.1: a field that is not known is added, its name by its index, if that is known, the least one of these.
func TestAdded(t *testing.T) {
	a := tableOf(200, "n", "new", "m", "1", "n", "old")
	for _, c := range []struct {
		a    api.Table
		f    api.Field
		want string
	}{
		{tableOf(200), row("a", "1"), "\x40\x01a\x011"}, {tableOf(200), row("", ""), "\x40\x00\x00"}, {tableOf(200), row("", "1"), "\x40\x00\x011"}, {tableOf(200), row("a", ""), "\x40\x01a\x00"},
		{tableOf(200), row("aaa", "aaa"), "\x40\x82\x31\x8d\x82\x31\x8d"}, {tableOf(200), row("\xff", "\x00"), "\x40\x01\xff\x01\x00"},
		{tableOf(200), row(":method", "PUT"), "\x41" + best("PUT")}, {tableOf(200), row(":path", "/a"), "\x43" + best("/a")}, {tableOf(200), row(":scheme", ""), "\x44\x00"}, {tableOf(200), row(":status", "201"), "\x46" + best("201")},
		{tableOf(200), row("accept", "x"), "\x4a\x01x"}, {tableOf(200), row("host", "h"), "\x4f\x01h"}, {tableOf(200), row("priority", "u=2"), "\x51" + best("u=2")}, {tableOf(200), row("user-agent", "c"), "\x54\x01c"},
		{tableOf(200), row(":Method", "GET"), "\x40" + best(":Method", "GET")}, {tableOf(200), row("GET", ":method"), "\x40" + best("GET", ":method")}, {tableOf(200), row("set-cookie", "c"), "\x40" + best("set-cookie", "c")},
		{tableOf(200), row("Cookie", "c"), "\x40" + best("Cookie", "c")}, {tableOf(200), row("cookies", "c"), "\x40" + best("cookies", "c")},
		{a, row("n", "x"), "\x55\x01x"}, {a, row("m", "2"), "\x56\x012"}, {a, row("o", "2"), "\x40\x01o\x012"}, {a, row("host", "h"), "\x4f\x01h"}, {a, row("", "new"), "\x40\x00" + best("new")}, {a, row("nnew", ""), "\x40" + best("nnew", "")},
		{tableOf(200, "host", "h"), row("host", "g"), "\x4f\x01g"}, {tableOf(200, ":path", "/a"), row(":path", "/b"), "\x43" + best("/b")}, {tableOf(200, "", ""), row("", "1"), "\x55\x011"},
	} {
		behind := api.Table{Max: 200, Rows: append([]api.Field{c.f}, c.a.Rows...)}
		for table.Full(behind) > 200 {
			behind.Rows = behind.Rows[:len(behind.Rows)-1]
		}
		puts(t, c.a, c.f, c.want, behind)
	}
	// A name's index in more than one byte.
	many := api.Table{Max: 4096, Rows: make([]api.Field, 100)}
	for i, want := range map[int]string{41: "\x7e\x01x", 42: "\x7f\x00\x01x", 43: "\x7f\x01\x01x", 99: "\x7f\x39\x01x"} {
		rows := slices.Clone(many.Rows)
		rows[i].Name = "k"
		puts(t, api.Table{Max: 4096, Rows: rows}, row("k", "x"), want, api.Table{Max: 4096, Rows: append([]api.Field{row("k", "x")}, rows...)})
	}
}

// P11.1: what is greater than the table's Max is told without being added; what just fits is added.
func TestTooGreat(t *testing.T) {
	a := tableOf(68, "a", "1", "b", "2")
	puts(t, a, row("c", strings.Repeat("3", 35)), "\x40"+best("c", strings.Repeat("3", 35)), tableOf(68, "c", strings.Repeat("3", 35)))
	puts(t, a, row("c", strings.Repeat("3", 36)), "\x00"+best("c", strings.Repeat("3", 36)), a)
	puts(t, a, row("a", strings.Repeat("3", 35)), "\x55"+best(strings.Repeat("3", 35)), tableOf(68, "a", strings.Repeat("3", 35)))
	puts(t, a, row("a", strings.Repeat("3", 36)), "\x0f\x06"+best(strings.Repeat("3", 36)), a)
	puts(t, a, row("host", strings.Repeat("3", 32)), "\x4f"+best(strings.Repeat("3", 32)), tableOf(68, "host", strings.Repeat("3", 32)))
	puts(t, a, row("host", strings.Repeat("3", 33)), "\x0f\x00"+best(strings.Repeat("3", 33)), a)
	puts(t, a, row(":status", strings.Repeat("3", 30)), "\x06"+best(strings.Repeat("3", 30)), a)
	// It is the Max that bounds, not what is free.
	puts(t, a, row("c", "3"), "\x40\x01c\x013", tableOf(68, "c", "3", "a", "1"))
	puts(t, a, row("c", ""), "\x40\x01c\x00", tableOf(68, "c", "", "a", "1"))
	puts(t, a, row("c", "33"), "\x40"+best("c", "33"), tableOf(68, "c", "33"))
	for _, c := range []struct {
		most  int
		f     api.Field
		added bool
	}{
		{0, row("", ""), false}, {31, row("", ""), false}, {32, row("", ""), true}, {33, row("", ""), true}, {32, row("", "1"), false}, {33, row("a", ""), true}, {33, row("a", "1"), false}, {34, row("a", "1"), true},
		{4096, row("", strings.Repeat("v", 4064)), true}, {4096, row("", strings.Repeat("v", 4065)), false}, {4096, row(strings.Repeat("n", 4065), ""), false}, {4095, row("", strings.Repeat("v", 4064)), false},
		{4096, row(strings.Repeat("n", 70000), strings.Repeat("v", 70000)), false},
	} {
		want, behind := "\x00"+best(c.f.Name, c.f.Value), tableOf(c.most)
		if c.added {
			want, behind = "\x40"+best(c.f.Name, c.f.Value), tableOf(c.most, c.f.Name, c.f.Value)
		}
		puts(t, tableOf(c.most), c.f, want, behind)
	}
}

// P11.1, P11.3: a secret field is told as one, whatever its size, and never added.
func TestSecretPut(t *testing.T) {
	great := strings.Repeat("s", 5000)
	for _, a := range []api.Table{tableOf(0), tableOf(38), tableOf(39), tableOf(100), tableOf(100, "a", "1"), tableOf(4096, "a", "1", "cookie", "old")} {
		puts(t, a, row("cookie", "1"), "\x1d\x011", a)
		puts(t, a, row("cookie", "aaa"), "\x1d\x82\x31\x8d", a)
		puts(t, a, row("cookie", great), "\x1d"+best(great), a)
		puts(t, a, row("cookie", ""), "\x8d", a)
		blocks(t, a, list("cookie", "1", "cookie", "1", "cookie", "2"), "\x1d\x011\x1d\x011\x1d\x012", a)
	}
	blocks(t, tableOf(100), list("a", "1", "cookie", "1", "a", "1"), "\x40\x01a\x011\x1d\x011\x95", tableOf(100, "a", "1"))
}

// P11.2: each field by the table behind the one ahead.
func TestBlocks(t *testing.T) {
	blocks(t, tableOf(100), nil, "", tableOf(100))
	blocks(t, tableOf(100, "a", "1"), []api.Field{}, "", tableOf(100, "a", "1"))
	blocks(t, api.Table{}, nil, "", api.Table{})
	blocks(t, tableOf(100), list("a", "1", "b", "2", "c", "3"), "\x40\x01a\x011\x40\x01b\x012\x40\x01c\x013", tableOf(100, "c", "3", "b", "2"))
	blocks(t, tableOf(100), list("a", "1", "b", "2", "a", "1", "b", "2"), "\x40\x01a\x011\x40\x01b\x012\x96\x95", tableOf(100, "b", "2", "a", "1"))
	// What is dropped is not known any more.
	blocks(t, tableOf(100), list("a", "1", "b", "2", "c", "3", "a", "1"), "\x40\x01a\x011\x40\x01b\x012\x40\x01c\x013\x40\x01a\x011", tableOf(100, "a", "1", "c", "3"))
	blocks(t, tableOf(34), list("a", "1", "a", "2", "a", "1"), "\x40\x01a\x011\x55\x012\x55\x011", tableOf(34, "a", "1"))
	// A name is known by the field that was added last.
	blocks(t, tableOf(200), list("a", "1", "b", "1", "a", "2", "a", "3", "b", "2"), "\x40\x01a\x011\x40\x01b\x011\x56\x012\x55\x013\x57\x012", tableOf(200, "b", "2", "a", "3", "a", "2", "b", "1", "a", "1"))
	blocks(t, tableOf(0), list("a", "1", "a", "1", ":status", "200", ":status", "201"), "\x00\x01a\x011\x00\x01a\x011\x86\x06"+best("201"), tableOf(0))
	// One that is too great drops nothing, and is told anew each time.
	big := strings.Repeat("v", 69)
	blocks(t, tableOf(100), list("a", "1", "b", big, "a", "1", "b", big), "\x40\x01a\x011\x00"+best("b", big)+"\x95\x00"+best("b", big), tableOf(100, "a", "1"))
}

// P11.2: a size, then the block by the table of that size.
func TestSized(t *testing.T) {
	a := tableOf(200, "a", "1", "b", "22", "", "")
	for _, c := range []struct {
		most   int
		size   string
		behind api.Table
	}{
		{0, "\x20", tableOf(0)}, {1, "\x21", tableOf(1)}, {30, "\x3e", tableOf(30)}, {31, "\x3f\x00", tableOf(31)}, {33, "\x3f\x02", tableOf(33)}, {34, "\x3f\x03", tableOf(34, "a", "1")}, {68, "\x3f\x25", tableOf(68, "a", "1")},
		{69, "\x3f\x26", tableOf(69, "a", "1", "b", "22")}, {100, "\x3f\x45", tableOf(100, "a", "1", "b", "22")}, {101, "\x3f\x46", api.Table{Max: 101, Rows: a.Rows}}, {200, "\x3f\xa9\x01", a}, {201, "\x3f\xaa\x01", api.Table{Max: 201, Rows: a.Rows}},
		{4095, "\x3f\xe0\x1f", api.Table{Max: 4095, Rows: a.Rows}}, {4096, "\x3f\xe1\x1f", api.Table{Max: 4096, Rows: a.Rows}},
	} {
		sizes(t, a, c.most, nil, c.size, c.behind)
		sizes(t, a, c.most, list(":method", "POST", "cookie", "1"), c.size+"\x82\x1d\x011", c.behind)
	}
	// What the table of that size has dropped is not known any more.
	sizes(t, a, 69, list("b", "22"), "\x3f\x26\x96", tableOf(69, "a", "1", "b", "22"))
	sizes(t, a, 68, list("b", "22"), "\x3f\x25\x40"+best("b", "22"), tableOf(68, "b", "22"))
	sizes(t, a, 34, list("b", "22", "a", "1"), "\x3f\x03\x00"+best("b", "22")+"\x95", tableOf(34, "a", "1"))
	sizes(t, a, 0, list("a", "1", "a", "1"), "\x20\x00\x01a\x011\x00\x01a\x011", tableOf(0))
	// It is that size which bounds what is added.
	sizes(t, tableOf(0), 34, list("a", "1", "a", "1"), "\x3f\x03\x40\x01a\x011\x95", tableOf(34, "a", "1"))
	sizes(t, tableOf(4096), 33, list("a", "1"), "\x3f\x02\x00\x01a\x011", tableOf(33))
}

// P11.1, P11.2: a table that may not be is an error, whatever the fields; so is a size that may not be.
func TestWrong(t *testing.T) {
	lists := [][]api.Field{nil, {}, list(":method", "GET"), list("a", "1"), list("cookie", "1"), list("a", "1", "", "", "a", "1"), list("x", strings.Repeat("v", 5000))}
	for _, a := range []api.Table{
		tableOf(-1), tableOf(4097), tableOf(math.MinInt), tableOf(math.MaxInt), tableOf(31, "", ""), tableOf(0, "a", "1"), tableOf(67, "a", "1", "b", "2"), tableOf(-1, "a", "1"), tableOf(4097, "a", "1"),
		tableOf(4096, "", strings.Repeat("v", 4065)), {Max: 4096, Rows: make([]api.Field, 129)}, {Max: 4096, Rows: make([]api.Field, 100000)}, tableOf(math.MaxInt, "a", "1"),
	} {
		for _, l := range lists {
			b, o, e := Block(a, l)
			nothing(t, "Block("+shortTable(a)+", "+short(l)+")", b, o, e)
			for _, most := range []int{0, 100, 4096, -1, 4097} {
				b, o, e = Sized(a, most, l)
				nothing(t, fmt.Sprintf("Sized(%s, %d, %s)", shortTable(a), most, short(l)), b, o, e)
			}
			for _, f := range l {
				b, o, e = Field(a, f)
				nothing(t, "Field("+shortTable(a)+", "+short(l)+")", b, o, e)
			}
		}
	}
	for _, most := range []int{-1, 4097, -4096, 5000, math.MinInt, math.MaxInt, math.MinInt32, 1 << 31, 1<<31 - 1, 1 << 32, 1<<32 + 100} {
		for _, l := range lists {
			for _, a := range []api.Table{{}, tableOf(100), tableOf(100, "a", "1")} {
				b, o, e := Sized(a, most, l)
				nothing(t, fmt.Sprintf("Sized(%s, %d, %s)", shortTable(a), most, short(l)), b, o, e)
			}
		}
	}
	blocks(t, tableOf(4096, "", strings.Repeat("v", 4064)), list("", strings.Repeat("v", 4064)), "\x95", tableOf(4096, "", strings.Repeat("v", 4064)))
}

// P11.1: every static name, with its own and with other values, by tables that hold it or not, held against the second reading.
func TestStaticNames(t *testing.T) {
	for i := 1; i <= 20; i++ {
		f, _ := table.Static(i)
		for _, v := range []string{f.Value, "", "x", f.Value + "x", "GET", "u=1", strings.Repeat("v", 300)} {
			for _, a := range []api.Table{tableOf(0), tableOf(60), tableOf(200, f.Name, "x"), tableOf(200, f.Name, ""), tableOf(4096, "q", "x", f.Name, f.Value)} {
				asRead(t, a, -1, []api.Field{row(f.Name, v)})
				asRead(t, a, 50, []api.Field{row(f.Name, v), row(f.Name, v)})
			}
		}
	}
}

// P11.1 to P11.3: lists and tables of many kinds, held against the second reading, and taken apart again.
func TestGoneThrough(t *testing.T) {
	for seed := range uint32(6000) {
		n := mixed(seed)
		a := someTable(n)
		l := someList(n)
		b, behind := asRead(t, a, -1, l)
		asRead(t, a, []int{0, 40, 100, 300, 4096, n(4097)}[n(6)], l)
		// As a block is, so are its fields one by one.
		var all []byte
		one := a
		for _, f := range l {
			var own []byte
			var e api.Errno
			own, one, e = Field(one, f)
			if e != api.OK {
				t.Fatalf("seed %d: Field: %d", seed, e)
			}
			all = append(all, own...)
		}
		if !bytes.Equal(all, b) || !alike(one, behind) {
			t.Fatalf("seed %d: %x %s, field by field %x %s", seed, b, shortTable(behind), all, shortTable(one))
		}
	}
}

// P11.3: connections of many blocks, with sizes between: both tables stay the same, and a secret field comes into none.
func TestConnections(t *testing.T) {
	for seed := range uint32(300) {
		n := mixed(seed)
		here, _ := table.New(n(500))
		there := here
		for range 40 {
			l := someList(n)
			b, behind, e := Block(here, l)
			if n(4) == 0 {
				b, behind, e = Sized(here, n(600), l)
			}
			if e != api.OK || !table.Right(behind) {
				t.Fatalf("seed %d: %s %d", seed, shortTable(behind), e)
			}
			o, e := unpack.Block(there, api.MaxTable, b)
			if e != api.OK || !o.Long && !slices.Equal(o.List, l) || !table.Same(o.Table, behind) {
				t.Fatalf("seed %d: %s %s %d, not %s %s", seed, short(o.List), shortTable(o.Table), e, short(l), shortTable(behind))
			}
			if slices.ContainsFunc(behind.Rows, Secret) {
				t.Fatalf("seed %d: a secret field is in %s", seed, shortTable(behind))
			}
			here, there = behind, o.Table
		}
	}
}

// P11.1, P11.2 (R4): what is handed in is not changed, nor the room behind it; what is told stands in memory of its own.
func TestMemory(t *testing.T) {
	mark := row("mark", "m")
	rows := []api.Field{row("a", "1"), row("b", "2"), mark, mark, mark}
	fields := []api.Field{row("c", "3"), row("a", "1"), row("cookie", "c"), mark, mark}
	a := api.Table{Max: 4096, Rows: rows[:2]}
	calls := map[string]func() ([]byte, api.Table, api.Errno){
		"a field that is known": func() ([]byte, api.Table, api.Errno) { return Field(a, row("a", "1")) },
		"a field that is added": func() ([]byte, api.Table, api.Errno) { return Field(a, row("d", "4")) },
		"a secret field":        func() ([]byte, api.Table, api.Errno) { return Field(a, row("cookie", "4")) },
		"a field too great":     func() ([]byte, api.Table, api.Errno) { return Field(a, row("d", strings.Repeat("4", 5000))) },
		"a block":               func() ([]byte, api.Table, api.Errno) { return Block(a, fields[:3]) },
		"no block":              func() ([]byte, api.Table, api.Errno) { return Block(a, fields[:0]) },
		"a size":                func() ([]byte, api.Table, api.Errno) { return Sized(a, 4096, fields[:3]) },
		"a size alone":          func() ([]byte, api.Table, api.Errno) { return Sized(a, 4096, nil) },
	}
	for what, call := range calls {
		b, o, e := call()
		again, same, _ := call()
		want, wantRows := string(again), slices.Clone(same.Rows)
		if e != api.OK {
			t.Fatal(what, e)
		}
		for i := range b[:cap(b)] {
			b[:cap(b)][i] = 0xee
		}
		for i := range o.Rows[:cap(o.Rows)] {
			o.Rows[:cap(o.Rows)][i] = row("changed", "")
		}
		if !slices.Equal(rows, []api.Field{row("a", "1"), row("b", "2"), mark, mark, mark}) {
			t.Fatalf("%s: the table that was handed in is changed: %v", what, rows)
		}
		if !slices.Equal(fields, []api.Field{row("c", "3"), row("a", "1"), row("cookie", "c"), mark, mark}) {
			t.Fatalf("%s: the list that was handed in is changed: %v", what, fields)
		}
		if string(again) != want || !slices.Equal(same.Rows, wantRows) {
			t.Fatalf("%s: two answers share memory: %x %s", what, again, shortTable(same))
		}
	}
	_, o, _ := Block(a, fields[:3])
	for i := range rows {
		rows[i], fields[i] = row("later", ""), row("later", "")
	}
	if !alike(o, tableOf(4096, "c", "3", "a", "1", "b", "2")) {
		t.Errorf("what was handed in is kept: %s", shortTable(o))
	}
}

// R1: long lists and long texts end, and soon.
func TestLong(t *testing.T) {
	const many = 1 << 18
	l := make([]api.Field, many)
	for i := range l {
		l[i] = row("n", "0")
	}
	blocks(t, tableOf(100), l, "\x40\x01n\x010"+strings.Repeat("\x95", many-1), tableOf(100, "n", "0"))
	for i := range l {
		l[i].Value = string(rune('0' + i%2))
	}
	blocks(t, tableOf(34), l, "\x40\x01n\x010"+strings.Repeat("\x55\x011\x55\x010", many/2)[:3*(many-1)], tableOf(34, "n", "1"))
	full := api.Table{Max: 4096, Rows: slices.Repeat(list("", ""), 128)}
	blocks(t, full, slices.Repeat(list("cookie", "1"), many/4), strings.Repeat("\x1d\x011", many/4), full)
	great := strings.Repeat("v", 1<<20)
	puts(t, tableOf(4096), row(great, great), "\x00"+best(great, great), tableOf(4096))
	puts(t, tableOf(4096), row("cookie", great), "\x1d"+best(great), tableOf(4096))
}

// R3: calls answer the same, whatever was called ahead of them.
func TestSameAgain(t *testing.T) {
	a := tableOf(300, "x", "1", "y", "2")
	l := list("x", "1", "z", "3", "cookie", "c", "y", "3")
	first, behind, e := Sized(a, 250, l)
	if e != api.OK {
		t.Fatal(e)
	}
	for i := range 50 {
		_, _, _ = Block(a, l)
		_, _, _ = Sized(a, i-10, l)
		_, _, _ = Field(a, row("y", strings.Repeat("v", i*10)))
		sizes(t, a, 250, l, string(first), behind)
	}
}
