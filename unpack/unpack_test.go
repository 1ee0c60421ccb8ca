package unpack

import (
	"bytes"
	"fmt"
	"math"
	"slices"
	"strings"
	"testing"

	"causey/api"
	"causey/prefix"
	"causey/table"
	"causey/text"
)

// row is a field.
func row(name, value string) api.Field { return api.Field{Name: name, Value: value} }

// list is fields whose names and values are given by turns.
func list(texts ...string) []api.Field {
	var l []api.Field
	for i := 0; i+1 < len(texts); i += 2 {
		l = append(l, row(texts[i], texts[i+1]))
	}
	return l
}

// of is a table of that Max, of fields whose names and values are given by turns, the newest first.
func of(most int, texts ...string) api.Table { return api.Table{Max: most, Rows: list(texts...)} }

// plain is the bytes of texts of less than 127 bytes, plain, one behind the other.
func plain(texts ...string) string {
	var b strings.Builder
	for _, s := range texts {
		b.WriteByte(byte(len(s)))
		b.WriteString(s)
	}
	return b.String()
}

// alikeTables holds two tables against each other by their parts.
func alikeTables(a, b api.Table) bool { return a.Max == b.Max && slices.Equal(a.Rows, b.Rows) }

// alike holds what two blocks tell against each other by their parts.
func alike(a, b api.Unpacked) bool {
	return slices.Equal(a.List, b.List) && a.Long == b.Long && alikeTables(a.Table, b.Table)
}

// brief is s, or its beginning and its end.
func brief(s string) string {
	if len(s) <= 60 {
		return s
	}
	return s[:30] + ".." + s[len(s)-30:]
}

// shortRows is fields told in a text, the first six, with their texts cut short.
func shortRows(l []api.Field) string {
	o := fmt.Sprintf("%d fields", len(l))
	for _, f := range l[:min(len(l), 6)] {
		o += fmt.Sprintf(" %q=%q", brief(f.Name), brief(f.Value))
	}
	return o
}

// short is o told in a text, with its texts cut short.
func short(o api.Unpacked) string {
	return fmt.Sprintf("[%s; long %v; Max %d, %s]", shortRows(o.List), o.Long, o.Table.Max, shortRows(o.Table.Rows))
}

// tells holds what Block tells of b against what is asked.
func tells(t *testing.T, a api.Table, most int, b string, want api.Unpacked) {
	t.Helper()
	if o, e := Block(a, most, []byte(b)); !alike(o, want) || e != api.OK {
		t.Errorf("Block(Max %d, %d, %x): %s %d, not %s", a.Max, most, brief(b), short(o), e, short(want))
	}
}

// fails holds that Block tells that error of b, and nothing else.
func fails(t *testing.T, a api.Table, most int, b string, want api.Errno) {
	t.Helper()
	if o, e := Block(a, most, []byte(b)); !alike(o, api.Unpacked{}) || e != want {
		t.Errorf("Block(Max %d, %d, %x): %s %d, not %d", a.Max, most, brief(b), short(o), e, want)
	}
}

// bytesOf is the bytes of a call that tells no error.
func bytesOf(t *testing.T, b []byte, e api.Errno) string {
	t.Helper()
	if e != api.OK {
		t.Fatalf("error %d", e)
	}
	return string(b)
}

// reading is a second reading of the chapter: slow, with the table as a list alone.
type reading struct {
	rows      []api.Field
	max, most int
	list      []api.Field
	field     bool // one was met
}

// evict drops the last field, as long as the size is above Max.
func (r *reading) evict() {
	for size(r.rows) > r.max {
		r.rows = r.rows[:len(r.rows)-1]
	}
}

// size is the sizes of fields, together, by the chapter's words.
func size(l []api.Field) int {
	all := 0
	for _, f := range l {
		all += len(f.Name) + len(f.Value) + 32
	}
	return all
}

// at is the field of an index, by the chapter's words.
func (r *reading) at(i int) (api.Field, api.Errno) {
	if f, ok := table.Static(i); ok {
		return f, api.OK
	}
	if i < 21 || i >= 21+len(r.rows) {
		return api.Field{}, api.ErrIndex
	}
	return r.rows[i-21], api.OK
}

// literal is the field behind the index of its name.
func (r *reading) literal(i int, b []byte) (f api.Field, rest []byte, e api.Errno) {
	if i != 0 {
		f, e = r.at(i)
		rest = b
	} else {
		f.Name, rest, e = text.Take(b)
	}
	if e != api.OK {
		return f, nil, e
	}
	f.Value, rest, e = text.Take(rest)
	return f, rest, e
}

// one goes through what stands first in b.
func (r *reading) one(b []byte) (rest []byte, e api.Errno) {
	var f api.Field
	bits := 4
	switch {
	case b[0] >= 128:
		bits = 7
	case b[0] >= 64:
		bits = 6
	case b[0] >= 32:
		bits = 5
	}
	n, rest, e := prefix.Take(b, bits)
	if e != api.OK {
		return nil, e
	}
	switch bits {
	case 5:
		if r.field || n > r.most {
			return nil, api.ErrUpdate
		}
		r.max = n
		r.evict()
		return rest, api.OK
	case 7:
		f, e = r.at(n)
	default:
		f, rest, e = r.literal(n, rest)
	}
	if e != api.OK {
		return nil, e
	}
	r.field = true
	r.list = append(r.list, f)
	if bits == 6 {
		r.rows = slices.Concat([]api.Field{f}, r.rows)
		r.evict()
	}
	return rest, api.OK
}

// slowBlock goes through the chapter's words; the table may be.
func slowBlock(a api.Table, most int, b []byte) (api.Unpacked, api.Errno) {
	r := reading{rows: slices.Clone(a.Rows), max: a.Max, most: most}
	for len(b) > 0 {
		rest, e := r.one(b)
		if e != api.OK {
			return api.Unpacked{}, e
		}
		b = rest
	}
	o := api.Unpacked{Long: size(r.list) > 2000, Table: api.Table{Max: r.max, Rows: r.rows}}
	for i := range r.list {
		if size(r.list[:i+1]) <= 2000 {
			o.List = append(o.List, r.list[i])
		}
	}
	return o, api.OK
}

// asRead holds what Block tells against the second reading.
func asRead(t *testing.T, a api.Table, most int, b []byte) (api.Unpacked, api.Errno) {
	t.Helper()
	o, e := Block(a, most, b)
	if want, we := slowBlock(a, most, b); !alike(o, want) || e != we {
		t.Fatalf("Block(%s, %d, %x): %s %d, not %s %d", short(api.Unpacked{Table: a}), most, brief(string(b)), short(o), e, short(want), we)
	}
	return o, e
}

// mixed gives numbers that hang on a seed alone.
func mixed(seed uint32) func(below int) int {
	seed = seed*2654435761 + 12345
	return func(below int) int {
		seed = seed*1664525 + 1013904223
		return int(seed>>8) % below
	}
}

// someField is a field of few names and values, some of them static ones.
func someField(n func(int) int) api.Field {
	names := []string{"a", "b", "", "cookie", "priority", ":status", "\x00\xff", "x-" + strings.Repeat("n", n(60))}
	values := []string{"", "1", "2", "u=1", "204", "é", strings.Repeat("v", n(200)), strings.Repeat("\x80", n(40))}
	return row(names[n(len(names))], values[n(len(values))])
}

// someTable is a table of a few fields.
func someTable(n func(int) int) api.Table {
	a, _ := table.New([]int{0, 40, 100, 300, 1000, 4096}[n(6)])
	for range n(8) {
		a, _ = table.Add(a, someField(n))
	}
	return a
}

// someBlock is a block of sizes, then fields, most of which may be by that table.
func someBlock(n func(int) int, a api.Table, most, sizes int) []byte {
	var o []byte
	for range sizes {
		b, _ := Sized(n(most + 1))
		o = append(o, b...)
	}
	for range n(8) {
		f := someField(n)
		b := Field(f, n(5))
		switch i := 1 + n(21+len(a.Rows)); n(4) {
		case 0:
			b, _ = Indexed(i)
		case 1:
			b, _ = Named(i, f.Value, n(5))
		}
		o = append(o, b...)
	}
	return o
}

// P10.1, P10.2: the chapter's examples.
func TestExamples(t *testing.T) {
	tells(t, of(100), 100, "\x82", api.Unpacked{List: list(":method", "POST"), Table: of(100)})
	tells(t, of(100), 100, "\x40\x01a\x011", api.Unpacked{List: list("a", "1"), Table: of(100, "a", "1")})
	if o, _ := Block(of(100), 100, []byte("\x40\x01a\x011")); table.Full(o.Table) != 34 {
		t.Errorf("the table's size is %d", table.Full(o.Table))
	}
}

// P10.1: a field by its index: static ones, then the table's.
func TestIndexed(t *testing.T) {
	a := of(200, "n", "new", ":path", "/x", "n", "old")
	for i := 1; i <= 20; i++ {
		f, _ := table.Static(i)
		for _, b := range []api.Table{of(0), of(100), a} {
			tells(t, b, 0, string([]byte{128 + byte(i)}), api.Unpacked{List: []api.Field{f}, Table: b})
		}
	}
	tells(t, a, 0, "\x95\x96\x97\x95", api.Unpacked{List: list("n", "new", ":path", "/x", "n", "old", "n", "new"), Table: a})
	for _, b := range []string{"\x80", "\x98", "\xfe", "\xff\x00", "\xff\x80\xff\xff\xff\x07", "\x82\x80", "\x82\x98"} {
		fails(t, a, 4096, b, api.ErrIndex)
	}
	fails(t, of(100), 4096, "\x95", api.ErrIndex)
	fails(t, of(0), 0, "\x95", api.ErrIndex)
	fails(t, of(34, "a", "1"), 0, "\x96", api.ErrIndex)
	// Great indexes, in more than one byte: a table has 128 fields at most, and the last one is 148.
	many := api.Table{Max: 4096, Rows: make([]api.Field, 128)}
	tells(t, many, 0, "\xff\x00\xff\x01\xff\x15", api.Unpacked{List: make([]api.Field, 3), Table: many})
	fails(t, many, 0, "\xff\x16", api.ErrIndex)
	few := of(4096)
	for i := range 110 {
		few.Rows = append(few.Rows, row(string(rune('a'+i%26)), strings.Repeat("v", i%4)))
	}
	tells(t, few, 0, "\xfe\xff\x00\xff\x01\xff\x81\x00", api.Unpacked{List: []api.Field{few.Rows[105], few.Rows[106], few.Rows[107], few.Rows[107]}, Table: few})
	fails(t, few, 0, "\xff\x04", api.ErrIndex)
}

// P10.1: a field of its own, added or not, its name a text, or that of an index.
func TestOwn(t *testing.T) {
	a := of(200, "n", "new")
	behind := func(f api.Field) api.Table { return api.Table{Max: 200, Rows: []api.Field{f, a.Rows[0]}} }
	for _, c := range []struct {
		b    string
		f    api.Field
		into bool
	}{
		{"\x40" + plain("a", "1"), row("a", "1"), true}, {"\x00" + plain("a", "1"), row("a", "1"), false}, {"\x10" + plain("a", "1"), row("a", "1"), false},
		{"\x40" + plain("", ""), row("", ""), true}, {"\x00" + plain("", ""), row("", ""), false}, {"\x10" + plain("", ""), row("", ""), false},
		{"\x41" + plain("PUT"), row(":method", "PUT"), true}, {"\x01" + plain("PUT"), row(":method", "PUT"), false}, {"\x11" + plain("PUT"), row(":method", "PUT"), false},
		{"\x4d" + plain("c"), row("cookie", "c"), true}, {"\x0d" + plain("c"), row("cookie", "c"), false}, {"\x1d" + plain("c"), row("cookie", "c"), false},
		{"\x4e" + plain("d"), row("date", "d"), true}, {"\x0e" + plain("d"), row("date", "d"), false}, {"\x1e" + plain("d"), row("date", "d"), false},
		{"\x4f" + plain("h"), row("host", "h"), true}, {"\x0f\x00" + plain("h"), row("host", "h"), false}, {"\x1f\x00" + plain("h"), row("host", "h"), false},
		{"\x54" + plain("u"), row("user-agent", "u"), true}, {"\x0f\x05" + plain("u"), row("user-agent", "u"), false}, {"\x1f\x05" + plain("u"), row("user-agent", "u"), false},
		{"\x55" + plain("x"), row("n", "x"), true}, {"\x0f\x06" + plain("x"), row("n", "x"), false}, {"\x1f\x06" + plain("x"), row("n", "x"), false},
		{"\x55" + plain(""), row("n", ""), true}, {"\x52" + plain("z"), row("priority", "z"), true}, {"\x0f\x86\x80\x00" + plain("x"), row("n", "x"), false},
		// Texts in bits, and numbers that are longer than they need be.
		{"\x40\x82\x31\x8d\x81\x37", row("aaa", "a"), true}, {"\x00\x80\x80", row("", ""), false}, {"\x10\x01A\x82\x31\x8d", row("A", "aaa"), false},
		{"\x40\x7f\x80\x00" + strings.Repeat("k", 127) + "\x00", row(strings.Repeat("k", 127), ""), true},
	} {
		want := api.Unpacked{List: []api.Field{c.f}, Table: a}
		if c.into {
			want.Table = behind(c.f)
			if table.Full(want.Table) > 200 {
				want.Table.Rows = want.Table.Rows[:1]
			}
		}
		tells(t, a, 0, c.b, want)
	}
	for _, b := range []string{"\x56", "\x56" + plain("x"), "\x0f\x07" + plain("x"), "\x1f\x07" + plain("x"), "\x7f\x00" + plain("x"), "\x7e" + plain("x"), "\x0f\xf0\xff\xff\xff\x07\x00"} {
		fails(t, a, 4096, b, api.ErrIndex)
	}
}

// P10.1: what is added counts at once for all that stands behind it.
func TestAddedCounts(t *testing.T) {
	add := func(name, value string) string { return "\x40" + plain(name, value) }
	tells(t, of(100), 0, add("a", "1")+"\x95", api.Unpacked{List: list("a", "1", "a", "1"), Table: of(100, "a", "1")})
	tells(t, of(100), 0, add("a", "1")+"\x55"+plain("2")+"\x96\x95", api.Unpacked{List: list("a", "1", "a", "2", "a", "1", "a", "2"), Table: of(100, "a", "2", "a", "1")})
	tells(t, of(100), 0, add("a", "1")+add("b", "2")+add("c", "3")+"\x95\x96", api.Unpacked{List: list("a", "1", "b", "2", "c", "3", "c", "3", "b", "2"), Table: of(100, "c", "3", "b", "2")})
	fails(t, of(100), 0, add("a", "1")+add("b", "2")+add("c", "3")+"\x97", api.ErrIndex)
	fails(t, of(100), 0, "\x95"+add("a", "1"), api.ErrIndex)
	fails(t, of(100), 0, "\x00"+plain("a", "1")+"\x95", api.ErrIndex)
	fails(t, of(100), 0, "\x10"+plain("a", "1")+"\x95", api.ErrIndex)
	// The name of an index may be that of a field which is dropped by this very one.
	tells(t, of(34, "a", "1"), 0, "\x55"+plain("2"), api.Unpacked{List: list("a", "2"), Table: of(34, "a", "2")})
	// A field that is too great for the table is told, and leaves it empty.
	tells(t, of(68, "a", "1", "b", "2"), 0, add("c", strings.Repeat("3", 36)), api.Unpacked{List: list("c", strings.Repeat("3", 36)), Table: of(68)})
	tells(t, of(68, "a", "1", "b", "2"), 0, add("c", strings.Repeat("3", 35)), api.Unpacked{List: list("c", strings.Repeat("3", 35)), Table: of(68, "c", strings.Repeat("3", 35))})
	tells(t, of(68, "a", "1", "b", "2"), 0, "\x55"+plain(strings.Repeat("3", 36)), api.Unpacked{List: list("a", strings.Repeat("3", 36)), Table: of(68)})
	fails(t, of(68, "a", "1"), 0, add("c", strings.Repeat("3", 36))+"\x95", api.ErrIndex)
	tells(t, of(0), 0, add("a", "1")+add("", ""), api.Unpacked{List: list("a", "1", "", ""), Table: of(0)})
}

// P10.1: sizes, ahead of all fields: the table's Max is that, and what does not fit is dropped; none is above most.
func TestSizes(t *testing.T) {
	a := of(200, "a", "1", "b", "22", "", "")
	for _, c := range []struct {
		b    string
		want api.Table
	}{
		{"", a}, {"\x20", of(0)}, {"\x21", of(1)}, {"\x3e", of(30)}, {"\x3f\x00", of(31)}, {"\x3f\x02", of(33)}, {"\x3f\x03", of(34, "a", "1")}, {"\x3f\x25", of(68, "a", "1")}, {"\x3f\x26", of(69, "a", "1", "b", "22")},
		{"\x3f\x45", of(100, "a", "1", "b", "22")}, {"\x3f\x46", api.Table{Max: 101, Rows: a.Rows}}, {"\x3f\xa9\x01", a}, {"\x3f\xaa\x01", api.Table{Max: 201, Rows: a.Rows}}, {"\x3f\xe1\x1f", api.Table{Max: 4096, Rows: a.Rows}},
		{"\x20\x3f\xa9\x01", of(200)}, {"\x3f\x03\x3f\xa9\x01", of(200, "a", "1")}, {"\x3f\xa9\x01\x3f\x26\x3f\x45", of(100, "a", "1", "b", "22")}, {"\x3f\xa9\x81\x80\x00", a}, {"\x20\x20\x20\x20", of(0)},
	} {
		tells(t, a, 4096, c.b, api.Unpacked{Table: c.want})
		tells(t, a, 4096, c.b+"\x82", api.Unpacked{List: list(":method", "POST"), Table: c.want})
	}
	// By the table of that size what follows is gone through.
	tells(t, a, 4096, "\x3f\x26\x96", api.Unpacked{List: list("b", "22"), Table: of(69, "a", "1", "b", "22")})
	fails(t, a, 4096, "\x3f\x25\x96", api.ErrIndex)
	tells(t, a, 4096, "\x3f\x03\x40"+plain("c", "3"), api.Unpacked{List: list("c", "3"), Table: of(34, "c", "3")})
	tells(t, of(0), 4096, "\x3f\x25\x40"+plain("c", "3"), api.Unpacked{List: list("c", "3"), Table: of(68, "c", "3")})
	// The most that is set bounds them, not the table's Max.
	for _, most := range []int{0, 1, 30, 31, 32, 199, 200, 201, 4095, 4096} {
		for _, n := range []int{0, 1, 29, 30, 31, 32, 33, 198, 199, 200, 201, 202, 4094, 4095, 4096, 4097, 5000, 1<<31 - 1} {
			b, e := Sized(n)
			s := bytesOf(t, b, e)
			if n > most {
				fails(t, of(n%4096), most, s, api.ErrUpdate)
				fails(t, of(0), most, "\x20"+s, api.ErrUpdate)
				continue
			}
			tells(t, of(0), most, s, api.Unpacked{Table: of(n)})
			tells(t, of(4096, "", ""), most, s+"\x82", api.Unpacked{List: list(":method", "POST"), Table: api.Table{Max: n, Rows: make([]api.Field, min(1, n/32))}})
		}
	}
	// A table whose Max is above most is as it is till a size tells another one.
	tells(t, a, 0, "\x95", api.Unpacked{List: list("a", "1"), Table: a})
	tells(t, a, 0, "\x20", api.Unpacked{Table: of(0)})
	fails(t, a, 199, "\x3f\xa9\x01", api.ErrUpdate)
}

// P10.1: a size behind any field is an error, though its number is the Max already.
func TestSizeBehind(t *testing.T) {
	for _, f := range []string{"\x82", "\x95", "\x40" + plain("c", "3"), "\x00" + plain("c", "3"), "\x10" + plain("c", "3"), "\x0f\x00" + plain("c"), "\x82\x82\x82"} {
		for _, s := range []string{"\x20", "\x3e", "\x3f\x03", "\x3f\x45", "\x3f\xe1\x1f", "\x3f\xe2\x1f"} {
			fails(t, of(100, "a", "1"), 4096, f+s, api.ErrUpdate)
			fails(t, of(100, "a", "1"), 4096, f+s+"\x80", api.ErrUpdate)
			fails(t, of(100, "a", "1"), 4096, "\x3f\x45"+f+s, api.ErrUpdate)
		}
	}
}

// P10.1: numbers and texts that are broken off, too great, or no text.
func TestBroken(t *testing.T) {
	a := of(100, "a", "1")
	for _, first := range []string{"\xff", "\x7f", "\x3f", "\x1f", "\x0f"} {
		for _, c := range []struct {
			tail string
			e    api.Errno
		}{
			{"", api.ErrShort}, {"\x80", api.ErrShort}, {"\xff\xff\xff\xff", api.ErrShort}, {"\x80\x80\x80\x80\x80", api.ErrShort},
			{"\x80\x80\x80\x80\x80\x00", api.ErrLong}, {"\x80\x80\x80\x80\x80\x80", api.ErrLong}, {"\xff\xff\xff\xff\x08", api.ErrLong}, {"\xff\xff\xff\xff\x7f", api.ErrLong},
			{"\xff\xff\xff\xff\xff", api.ErrLong}, {"\x80\x80\x80\x80\x80\x80\x80\x00", api.ErrLong},
		} {
			fails(t, a, 4096, first+c.tail, c.e)
			fails(t, a, 4096, "\x20"+first+c.tail, c.e)
			// Behind a field, too: the number goes ahead of the place where it stands.
			fails(t, a, 4096, "\x82"+first+c.tail, c.e)
			if c.e == api.ErrLong {
				fails(t, a, 4096, first+c.tail+"\x00\x00\x82\x80", c.e)
			}
		}
	}
	for _, c := range []struct {
		b string
		e api.Errno
	}{
		{"", api.ErrShort}, {"\x01", api.ErrShort}, {"\x05abcd", api.ErrShort}, {"\x7f", api.ErrShort}, {"\x7f\x80", api.ErrShort}, {"\xff", api.ErrShort}, {"\x82\x31", api.ErrShort}, {"\x7f\xff\xff\xff\xff\x06", api.ErrShort},
		{"\x7f\xff\xff\xff\xff\x08", api.ErrLong}, {"\x7f\x80\x80\x80\x80\x80\x00", api.ErrLong}, {"\xff\xff\xff\xff\xff\x08", api.ErrLong}, {"\x7f\x80\x80\x80\x80\x80\x80\x00ab", api.ErrLong},
		{"\x81\xff", api.ErrHuff}, {"\x82\xff\xff", api.ErrHuff}, {"\x81\x30", api.ErrHuff},
	} {
		for _, first := range []string{"\x40", "\x00", "\x10", "\x40\x00", "\x00\x81\x37", "\x10\x01a", "\x41", "\x01", "\x11", "\x55", "\x0f\x06"} {
			fails(t, a, 4096, first+c.b, c.e)
			fails(t, a, 4096, "\x82\x40\x01b\x012"+first+c.b, c.e)
			if c.e != api.ErrShort {
				fails(t, a, 4096, first+c.b+"\x00\x80\x80\x3f", c.e)
			}
		}
	}
}

// P10.1: of several errors the first one that is met is told.
func TestFirstError(t *testing.T) {
	a := of(100, "a", "1")
	// 94, and no error.
	tells(t, a, 4096, "\x3f\x3f", api.Unpacked{Table: of(94, "a", "1")})
	for _, c := range []struct {
		b string
		e api.Errno
	}{
		{"\x80\xff", api.ErrIndex}, {"\xff\x80\x80", api.ErrShort}, {"\x80\x20", api.ErrIndex}, {"\x82\x20\x80", api.ErrUpdate}, {"\x82\x3f", api.ErrShort}, {"\x82\x3f\xff\xff\xff\xff\x08", api.ErrLong},
		{"\x56\x05", api.ErrIndex}, {"\x56\x81\xff", api.ErrIndex}, {"\x56", api.ErrIndex}, {"\x0f\x07", api.ErrIndex}, {"\x1f\x07\x7f", api.ErrIndex}, {"\x40\x81\xff\x05", api.ErrHuff}, {"\x40\x05\x81\xff", api.ErrShort},
		{"\x40\x01a\x81\xff\x80", api.ErrHuff}, {"\x00\x7f\xff\xff\xff\xff\x08\x81\xff", api.ErrLong}, {"\x3f\xe2\x1f\x80", api.ErrUpdate}, {"\x3f\xe2\x1f\x3f", api.ErrUpdate}, {"\x20\x95", api.ErrIndex},
	} {
		fails(t, a, 4096, c.b, c.e)
	}
}

// P10.1: a table that may not be, or a most that may not be, is an error whatever the block.
func TestBlockWrong(t *testing.T) {
	blocks := []string{"", "\x82", "\x80", "\x20", "\x3f", "\x40\x01a\x011", "\x00\x81\xff", "\x3f\xe2\x1f"}
	for _, a := range []api.Table{
		of(-1), of(4097), of(math.MinInt), of(math.MaxInt), of(31, "", ""), of(0, "a", "1"), of(67, "a", "1", "b", "2"), of(-1, "a", "1"), of(4097, "a", "1"),
		of(4096, "", strings.Repeat("v", 4065)), {Max: 4096, Rows: make([]api.Field, 129)}, of(math.MaxInt, "a", "1"),
	} {
		for _, b := range blocks {
			for _, most := range []int{0, 100, 4096, -1, 4097} {
				fails(t, a, most, b, api.ErrArg)
			}
		}
	}
	for _, most := range []int{-1, 4097, -4096, math.MinInt, math.MaxInt, 1 << 32, 1<<31 - 1} {
		for _, b := range blocks {
			fails(t, of(100), most, b, api.ErrArg)
			fails(t, api.Table{}, most, b, api.ErrArg)
		}
	}
	tells(t, of(0), 0, "", api.Unpacked{})
	tells(t, api.Table{}, 4096, "", api.Unpacked{})
	tells(t, of(4096, "", strings.Repeat("v", 4064)), 0, "", api.Unpacked{Table: of(4096, "", strings.Repeat("v", 4064))})
	if o, e := Block(of(100, "a", "1"), 0, nil); !alike(o, api.Unpacked{Table: of(100, "a", "1")}) || e != api.OK {
		t.Errorf("no block: %v %d", o, e)
	}
}

// P10.1: Long is more than 2000 of sizes; the list has those that are not, with all ahead of them.
func TestLong(t *testing.T) {
	wide := func(n int) string {
		return "\x00" + string(text.Plain("")) + string(text.Plain(strings.Repeat("v", n-32)))
	}
	value := func(n int) api.Field { return row("", strings.Repeat("v", n-32)) }
	tells(t, of(0), 0, wide(2000), api.Unpacked{List: []api.Field{value(2000)}})
	tells(t, of(0), 0, wide(2001), api.Unpacked{Long: true})
	tells(t, of(0), 0, wide(1999), api.Unpacked{List: []api.Field{value(1999)}})
	tells(t, of(0), 0, wide(1968)+wide(32), api.Unpacked{List: []api.Field{value(1968), {}}})
	tells(t, of(0), 0, wide(1968)+wide(33), api.Unpacked{List: []api.Field{value(1968)}, Long: true})
	tells(t, of(0), 0, wide(1969)+wide(32), api.Unpacked{List: []api.Field{value(1969)}, Long: true})
	tells(t, of(0), 0, wide(1000)+wide(1000), api.Unpacked{List: []api.Field{value(1000), value(1000)}})
	// A lesser field behind one that is too much is too much as well.
	tells(t, of(0), 0, wide(100)+wide(1901)+wide(32), api.Unpacked{List: []api.Field{value(100)}, Long: true})
	tells(t, of(0), 0, wide(4000)+wide(32)+wide(32), api.Unpacked{Long: true})
	tells(t, of(0), 0, strings.Repeat("\x00\x00\x00", 62), api.Unpacked{List: make([]api.Field, 62)})
	tells(t, of(0), 0, strings.Repeat("\x00\x00\x00", 63), api.Unpacked{List: make([]api.Field, 62), Long: true})
	tells(t, of(0), 0, strings.Repeat("\x00\x00\x00", 5000), api.Unpacked{List: make([]api.Field, 62), Long: true})
	// Fields by their index have their sizes too.
	get := strings.Repeat("\x81", 47) // 42 each
	var l []api.Field
	for range 47 {
		l = append(l, row(":method", "GET"))
	}
	tells(t, of(0), 0, get, api.Unpacked{List: l})
	tells(t, of(0), 0, get+"\x81", api.Unpacked{List: l, Long: true})
	// 26 are left: none but a field of no bytes would be too much by 6.
	tells(t, of(0), 0, get+"\x00\x00\x00", api.Unpacked{List: l, Long: true})
	fails(t, of(0), 0, get+"\x20", api.ErrUpdate)
}

// P10.1: a list that is long is gone through to its end: the table behind it, and errors, are told.
func TestLongGoesOn(t *testing.T) {
	big := "\x00\x00" + string(text.Plain(strings.Repeat("v", 3000)))
	tells(t, of(100), 0, big+"\x40"+plain("a", "1"), api.Unpacked{Long: true, Table: of(100, "a", "1")})
	tells(t, of(100), 0, big+"\x40"+plain("a", "1")+"\x95\x55"+plain("2"), api.Unpacked{Long: true, Table: of(100, "a", "2", "a", "1")})
	tells(t, of(4096, "a", "1"), 0, "\x95\x40\x00"+string(text.Plain(strings.Repeat("v", 3000)))+"\x95\x96", api.Unpacked{List: list("a", "1"), Long: true, Table: of(4096, "", strings.Repeat("v", 3000), "a", "1")})
	tells(t, of(4096), 0, "\x40\x00"+string(text.Plain(strings.Repeat("v", 4064))), api.Unpacked{Long: true, Table: of(4096, "", strings.Repeat("v", 4064))})
	tells(t, of(4096, "a", "1"), 0, "\x40\x00"+string(text.Plain(strings.Repeat("v", 4065))), api.Unpacked{Long: true, Table: of(4096)})
	for _, c := range []struct {
		b string
		e api.Errno
	}{{"\x80", api.ErrIndex}, {"\x95", api.ErrIndex}, {"\x20", api.ErrUpdate}, {"\xff", api.ErrShort}, {"\x00\x05", api.ErrShort}, {"\x00\x81\xff", api.ErrHuff}, {"\xff\xff\xff\xff\xff\x08", api.ErrLong}} {
		fails(t, of(100), 0, big+c.b, c.e)
	}
}

// P10.2: a field by its index, and a size: a number behind 7 bits, behind 5.
func TestPutNumbers(t *testing.T) {
	for _, c := range []struct {
		n           int
		index, size string
	}{
		{0, "\x80", "\x20"}, {1, "\x81", "\x21"}, {2, "\x82", "\x22"}, {20, "\x94", "\x34"}, {30, "\x9e", "\x3e"}, {31, "\x9f", "\x3f\x00"}, {32, "\xa0", "\x3f\x01"}, {126, "\xfe", "\x3f\x5f"},
		{127, "\xff\x00", "\x3f\x60"}, {128, "\xff\x01", "\x3f\x61"}, {158, "\xff\x1f", "\x3f\x7f"}, {159, "\xff\x20", "\x3f\x80\x01"}, {254, "\xff\x7f", "\x3f\xdf\x01"}, {255, "\xff\x80\x01", "\x3f\xe0\x01"},
		{4096, "\xff\x81\x1f", "\x3f\xe1\x1f"}, {4097, "\xff\x82\x1f", "\x3f\xe2\x1f"}, {1<<31 - 1, "\xff\x80\xff\xff\xff\x07", "\x3f\xe0\xff\xff\xff\x07"},
	} {
		if b, e := Indexed(c.n); string(b) != c.index || e != api.OK {
			t.Errorf("Indexed(%d): %x %d, not %x", c.n, b, e, c.index)
		}
		if b, e := Sized(c.n); string(b) != c.size || e != api.OK {
			t.Errorf("Sized(%d): %x %d, not %x", c.n, b, e, c.size)
		}
	}
	for _, n := range []int{-1, -127, math.MinInt, math.MinInt32, 1 << 31, 1<<31 + 1, 1 << 32, 1<<32 + 5, math.MaxInt} {
		if b, e := Indexed(n); len(b) != 0 || e != api.ErrArg {
			t.Errorf("Indexed(%d): %x %d", n, b, e)
		}
		if b, e := Sized(n); len(b) != 0 || e != api.ErrArg {
			t.Errorf("Sized(%d): %x %d", n, b, e)
		}
	}
}

// ways are ways of telling a field, each with the first byte of one whose name is a text, and how many bits are left to an index.
var ways = []struct {
	way   int
	first byte
	bits  int
}{
	{1, 0x40, 6}, {2, 0x10, 4}, {3, 0, 4}, {0, 0, 4}, {4, 0, 4}, {-1, 0, 4}, {256 + 1, 0, 4}, {256 + 2, 0, 4}, {1<<32 + 1, 0, 4}, {math.MaxInt, 0, 4}, {math.MinInt, 0, 4},
}

// P10.2: a field whose name is a text, in each way; texts by their best bytes.
func TestPutField(t *testing.T) {
	for _, w := range ways {
		for _, c := range []struct {
			f    api.Field
			want string
		}{
			{row("", ""), "\x00\x00"}, {row("a", "1"), "\x01a\x011"}, {row("aaa", "aaa"), "\x82\x31\x8d\x82\x31\x8d"}, {row("a", "aaa"), "\x01a\x82\x31\x8d"}, {row("aaa", "\xff"), "\x82\x31\x8d\x01\xff"},
			{row(":method", "GET"), string(text.Best(":method")) + string(text.Best("GET"))}, {row("", strings.Repeat("\x80", 200)), "\x00\x7f\x49" + strings.Repeat("\x80", 200)},
			{row(strings.Repeat("A", 300), ""), string(text.Bits(strings.Repeat("A", 300))) + "\x00"},
		} {
			if b := Field(c.f, w.way); string(b) != string([]byte{w.first})+c.want {
				t.Errorf("Field(%q, %d): %x, not %x %x", c.f, w.way, b, w.first, c.want)
			}
		}
	}
}

// P10.2: a field of the name of an index, in each way.
func TestPutNamed(t *testing.T) {
	for _, w := range ways {
		for _, i := range []int{1, 2, 14, 15, 16, 20, 21, 62, 63, 64, 126, 127, 128, 142, 143, 190, 191, 255, 4096, 1 << 20, 1<<31 - 2, 1<<31 - 1} {
			number, _ := prefix.Put(i, w.bits, w.first)
			for _, c := range [][2]string{{"", "\x00"}, {"1", "\x011"}, {"aaa", "\x82\x31\x8d"}, {strings.Repeat("\xff", 130), "\x7f\x03" + strings.Repeat("\xff", 130)}} {
				if b, e := Named(i, c[0], w.way); string(b) != string(number)+c[1] || e != api.OK {
					t.Errorf("Named(%d, %q, %d): %x %d, not %x%x", i, c[0], w.way, b, e, number, c[1])
				}
			}
		}
		for _, i := range []int{0, -1, -21, math.MinInt, math.MinInt32, 1 << 31, 1 << 32, 1<<32 + 1, math.MaxInt} {
			if b, e := Named(i, "v", w.way); len(b) != 0 || e != api.ErrArg {
				t.Errorf("Named(%d, v, %d): %x %d", i, w.way, b, e)
			}
		}
	}
	for _, c := range []struct {
		i, way int
		want   string
	}{{1, 1, "\x41\x01v"}, {62, 1, "\x7e\x01v"}, {63, 1, "\x7f\x00\x01v"}, {64, 1, "\x7f\x01\x01v"}, {13, 2, "\x1d\x01v"}, {14, 2, "\x1e\x01v"}, {15, 2, "\x1f\x00\x01v"}, {14, 3, "\x0e\x01v"}, {15, 3, "\x0f\x00\x01v"}, {143, 0, "\x0f\x80\x01\x01v"}} {
		if b, e := Named(c.i, "v", c.way); string(b) != c.want || e != api.OK {
			t.Errorf("Named(%d, v, %d): %x %d, not %x", c.i, c.way, b, e, c.want)
		}
	}
}

// P10.2: the sizes of fields, together.
func TestSize(t *testing.T) {
	for _, c := range []struct {
		l    []api.Field
		want int
	}{
		{nil, 0}, {[]api.Field{}, 0}, {list("", ""), 32}, {list("a", "1"), 34}, {list("a", "1", "bb", ""), 68}, {list("é", "\xff\x00"), 36}, {list(":method", "GET", ":method", "GET"), 84},
		{make([]api.Field, 100000), 3200000}, {list(strings.Repeat("n", 70000), strings.Repeat("v", 5000)), 75032},
	} {
		if n := Size(c.l); n != c.want {
			t.Errorf("Size of %d fields: %d, not %d", len(c.l), n, c.want)
		}
	}
}

// P10.2: the same in all: the list in order, Long, the table; nil and empty mean the same.
func TestSame(t *testing.T) {
	same := [][]api.Unpacked{
		{{}, {List: []api.Field{}}, {Table: api.Table{Rows: []api.Field{}}}, {List: make([]api.Field, 0, 7)}},
		{{Long: true}}, {{Table: of(1)}}, {{Table: of(-1)}}, {{Table: of(math.MaxInt)}}, {{Table: of(0, "a", "1")}}, {{Table: of(100, "a", "1")}}, {{Table: of(100, "a", "2")}}, {{Table: of(100, "a", "1", "b", "2")}}, {{Table: of(100, "b", "2", "a", "1")}},
		{{List: list("a", "1")}, {List: append(make([]api.Field, 0, 9), row("a", "1"))}}, {{List: list("a", "2")}}, {{List: list("b", "1")}}, {{List: list("a1", "")}}, {{List: list("", "")}}, {{List: list("a", "1", "a", "1")}},
		{{List: list("a", "1", "b", "2")}}, {{List: list("b", "2", "a", "1")}}, {{List: list("a", "1"), Long: true}}, {{List: list("a", "1"), Table: of(100, "a", "1")}}, {{List: list("a", "1"), Long: true, Table: of(100, "a", "1")}},
		{{List: make([]api.Field, 500)}}, {{List: make([]api.Field, 501)}},
	}
	for i, l := range same {
		for j, m := range same {
			for _, a := range l {
				for _, b := range m {
					if Same(a, b) != (i == j) {
						t.Errorf("Same(%s, %s): %v", short(a), short(b), i != j)
					}
				}
			}
		}
	}
}

// P10.1: every block of one and of two bytes, held against a second reading of the chapter, by several tables.
func TestAllShort(t *testing.T) {
	for _, a := range []api.Table{of(0), of(100, "a", "1"), of(4096, "n", "new", "", "", "n", "old")} {
		for _, most := range []int{0, 33, 4096} {
			for i := range 256 {
				asRead(t, a, most, []byte{byte(i)})
				for j := range 256 {
					asRead(t, a, most, []byte{byte(i), byte(j)})
				}
			}
		}
	}
}

// P10.1: every first byte ahead of tails of many kinds, held against the second reading.
func TestAllFirst(t *testing.T) {
	a := of(300, "n", "new", "", "", "n", "old")
	tails := []string{"\x00", "\x01a", "\x01a\x01b", "\x00\x00\x82", "\x80\x80\x95", "\x06\x01a", "\x81\x37\x81\x37\x20", "\x7f\x00", "\x80\x00\x01a\x01b", "\xff\xff\xff\xff\x07", "\xff\xff\xff\xff\x08", "\x80\x80\x80\x80\x80\x00", "\x01\x02\x03\x04\x05\x06\x07\x08\x09\x0a\x0b\x0c"}
	for i := range 256 {
		for _, s := range tails {
			for _, ahead := range []string{"", "\x82", "\x20", "\x40\x01x\x01y"} {
				asRead(t, a, 200, append([]byte(ahead+string([]byte{byte(i)})), s...))
			}
		}
	}
}

// P10.1: blocks of many kinds, whole, cut off anywhere, and with a byte changed, held against the second reading.
func TestGoneThrough(t *testing.T) {
	went := 0
	for seed := range uint32(4000) {
		n := mixed(seed)
		a := someTable(n)
		most := []int{0, 40, 200, 4096}[n(4)]
		b := someBlock(n, a, most, max(0, n(5)-2))
		if _, e := asRead(t, a, most, b); e == api.OK {
			went++
		}
		if len(b) == 0 {
			continue
		}
		for range 3 {
			asRead(t, a, most, b[:n(len(b))])
			c := bytes.Clone(b)
			c[n(len(c))] = byte(n(256))
			asRead(t, a, most, c)
			asRead(t, a, most, append(c, b...))
		}
	}
	if went < 1000 {
		t.Errorf("only %d blocks are right", went)
	}
}

// P10.1, P10.2: what is put is told, in each way, by its index, or with its name.
func TestPutIsTold(t *testing.T) {
	for seed := range uint32(2000) {
		n := mixed(seed)
		a := someTable(n)
		f := someField(n)
		for _, w := range ways {
			behind := a
			if w.way == 1 {
				behind, _ = table.Add(a, f)
			}
			tells(t, a, 0, string(Field(f, w.way)), api.Unpacked{List: []api.Field{f}, Table: behind})
			i := 1 + n(20+len(a.Rows))
			g, _ := table.At(a, i)
			b, e := Indexed(i)
			tells(t, a, 0, bytesOf(t, b, e), api.Unpacked{List: []api.Field{g}, Table: a})
			g.Value = f.Value
			if w.way == 1 {
				behind, _ = table.Add(a, g)
			}
			b, e = Named(i, f.Value, w.way)
			tells(t, a, 0, bytesOf(t, b, e), api.Unpacked{List: []api.Field{g}, Table: behind})
		}
		most := n(4097)
		b, e := Sized(most)
		behind, _ := table.Resize(a, most)
		tells(t, a, 4096, bytesOf(t, b, e), api.Unpacked{Table: behind})
	}
}

// P10.3: the table behind a block may be; two blocks, one behind the other, tell what both tell as one.
func TestTwoAsOne(t *testing.T) {
	both := 0
	for seed := range uint32(4000) {
		n := mixed(seed)
		a := someTable(n)
		first := someBlock(n, a, 4096, n(3))
		x, e := Block(a, 4096, first)
		if e != api.OK {
			continue
		}
		if !table.Right(x.Table) {
			t.Fatalf("seed %d: the table behind %x may not be", seed, first)
		}
		second := someBlock(n, x.Table, 4096, 0)
		y, e := Block(x.Table, 4096, second)
		whole, we := Block(a, 4096, slices.Concat(first, second))
		if e != we {
			t.Fatalf("seed %d: %d, as one %d", seed, e, we)
		}
		if e != api.OK {
			continue
		}
		both++
		l := append(slices.Clone(x.List), y.List...)
		if !x.Long && !y.Long && Size(l) <= 2000 && !alike(whole, api.Unpacked{List: l, Table: y.Table}) {
			t.Fatalf("seed %d: %s and %s, as one %s", seed, short(x), short(y), short(whole))
		}
		if !alikeTables(whole.Table, y.Table) || whole.Long != (x.Long || y.Long || Size(l) > 2000) {
			t.Fatalf("seed %d: %s, as one %s", seed, short(y), short(whole))
		}
	}
	if both < 500 {
		t.Errorf("only %d blocks of two are right", both)
	}
	// With a size ahead the second one is not what both are as one.
	fails(t, of(100), 4096, "\x82\x20", api.ErrUpdate)
	tells(t, of(100), 4096, "\x20", api.Unpacked{Table: of(0)})
}

// P10.1, P10.2 (R4): what is handed in is not changed, nor the room behind it; what is told stands in memory of its own.
func TestMemory(t *testing.T) {
	mark := row("mark", "m")
	rows := []api.Field{row("a", "1"), row("b", "2"), mark, mark, mark}
	a := api.Table{Max: 4096, Rows: rows[:2]}
	all := []byte("\x95\x40\x01c\x013\x00\x01d\x014....")
	blocks := map[string][]byte{"fields": all[:11], "no more than a field": all[:1], "nothing": all[:0]}
	for what, b := range blocks {
		o, e := Block(a, 4096, b)
		if e != api.OK {
			t.Fatal(what, e)
		}
		again, _ := Block(a, 4096, b)
		want, _ := slowBlock(a, 4096, b)
		for i := range o.List[:cap(o.List)] {
			o.List[:cap(o.List)][i] = row("changed", "")
		}
		for i := range o.Table.Rows[:cap(o.Table.Rows)] {
			o.Table.Rows[:cap(o.Table.Rows)][i] = row("changed too", "")
		}
		if !slices.Equal(rows, []api.Field{row("a", "1"), row("b", "2"), mark, mark, mark}) {
			t.Fatalf("%s: the table that was handed in is changed: %v", what, rows)
		}
		if string(all) != "\x95\x40\x01c\x013\x00\x01d\x014...." {
			t.Fatalf("%s: the block that was handed in is changed: %x", what, all)
		}
		if !alike(again, want) {
			t.Fatalf("%s: two answers share memory: %s", what, short(again))
		}
	}
	o, _ := Block(a, 4096, all[:11])
	l := slices.Clone(o.List)
	for i := range o.Table.Rows {
		o.Table.Rows[i] = row("changed", "")
	}
	if !slices.Equal(o.List, l) {
		t.Errorf("the list shares memory with the table: %q", o.List)
	}
	o, _ = Block(a, 4096, all[:11])
	for i := range all {
		all[i] = 0xff
	}
	for i := range rows {
		rows[i] = row("later", "")
	}
	if want := (api.Unpacked{List: list("a", "1", "c", "3", "d", "4"), Table: of(4096, "c", "3", "a", "1", "b", "2")}); !alike(o, want) {
		t.Errorf("what was handed in is kept: %s", short(o))
	}
	for _, call := range []func() []byte{
		func() []byte { return Field(row("a", "1"), 1) },
		func() []byte { b, _ := Named(5, "1", 1); return b },
		func() []byte { b, _ := Indexed(5); return b },
		func() []byte { b, _ := Sized(4096); return b },
	} {
		b := call()
		want := string(b)
		for i := range b[:cap(b)] {
			b[:cap(b)][i] = 0xee
		}
		if c := call(); string(c) != want {
			t.Errorf("two answers share memory: %x, not %x", c, want)
		}
	}
}

// R1: long blocks end, and soon: what stands behind a field is not gone through once more for each.
func TestLongBlocks(t *testing.T) {
	const many = 1 << 20
	a := of(100, "a", "1")
	l, _ := Block(a, 4096, bytes.Repeat([]byte{0x95}, 58))
	for _, b := range [][]byte{bytes.Repeat([]byte{0x95}, many), append(bytes.Repeat([]byte{0x95}, 58), bytes.Repeat([]byte("\x0f\x06\x011"), many/4)...)} {
		o, e := Block(a, 4096, b)
		if !alike(o, api.Unpacked{List: l.List, Long: true, Table: a}) || e != api.OK {
			t.Errorf("%d bytes: %s %d", len(b), short(o), e)
		}
	}
	tells(t, a, 4096, strings.Repeat("\x20", many/4), api.Unpacked{Table: of(0)})
	fails(t, a, 4096, strings.Repeat("\x00\x01a\x011", many/4)+"\x80", api.ErrIndex)
	long := strings.Repeat("v", many)
	tells(t, a, 4096, "\x40"+string(text.Plain(long))+string(text.Plain(long)), api.Unpacked{Long: true, Table: of(100)})
	fails(t, a, 4096, "\x40"+string(text.Plain(long))+string(text.Plain(long))[:many], api.ErrShort)
}

// R3: calls answer the same, whatever was called ahead of them.
func TestSameAgain(t *testing.T) {
	a := of(300, "x", "1", "y", "2")
	b := []byte("\x3f\x45\x95\x40\x01z\x019\x96\x10\x01c\x013")
	first, e := Block(a, 4096, b)
	if e != api.OK || len(first.List) != 4 {
		t.Fatal(first, e)
	}
	for i := range 50 {
		_, _ = Block(a, 10, b)
		_, _ = Block(a, 4096, b[:i%len(b)])
		_, _ = Named(i, "v", i)
		if o, e := Block(a, 4096, b); !alike(o, first) || !Same(o, first) || e != api.OK {
			t.Fatalf("%s %d, not %s", short(o), e, short(first))
		}
	}
}
