package field

import (
	"bytes"
	"math"
	"slices"
	"testing"

	"causey/api"
)

// extremes are numbers that calls must bear wherever they take one.
var extremes = []int{math.MinInt, math.MinInt + 1, -1 << 32, -1 << 31, -256, -2, -1, 0, 1, 2, 3, 127, 128, 254, 255, 256, 257, 65535, 65536, 1<<31 - 2, 1<<31 - 1, 1 << 31, 1<<31 + 1, 1<<32 - 1, 1 << 32, 1 << 60, math.MaxInt - 1, math.MaxInt}

// texts are bytes of several lengths.
func texts() []string {
	return []string{"", "\x00", "\x07\x08", "hello", "\xff\xff\xff\xff\xff\xff", string(bytes.Repeat([]byte{0xa5, 1}, 200))}
}

// roomy is b with spare room behind it, filled with a mark, and a look at all of it.
func roomy(b string) (part, all []byte) {
	all = append([]byte(b), bytes.Repeat([]byte{0x5a}, 600)...)
	return all[:len(b)], all
}

// chance gives bytes by a rule, with many small ones among them.
func chance() func() byte {
	seed := uint32(1)
	return func() byte {
		seed = seed*1664525 + 1013904223
		return byte(seed>>24) & byte(seed>>16)
	}
}

// P3.1: the chapter's example.
func TestPadExample(t *testing.T) {
	if b, e := Pad([]byte{7, 8}, 2); string(b) != "\x02\x07\x08\x00\x00" || e != api.OK {
		t.Errorf("%x %d", b, e)
	}
	if b, many, e := Unpad([]byte{2, 7, 8, 0, 0}); string(b) != "\x07\x08" || many != 3 || e != api.OK {
		t.Errorf("%x %d %d", b, many, e)
	}
}

// P3.1: each number from 0 to 255, and none else.
func TestPad(t *testing.T) {
	manies := append([]int{}, extremes...)
	for many := range 256 {
		manies = append(manies, many)
	}
	for _, text := range texts() {
		for _, many := range manies {
			b, e := Pad([]byte(text), many)
			if many < 0 || many > 255 {
				if len(b) != 0 || e != api.ErrArg {
					t.Errorf("%x by %d: %x %d", text, many, b, e)
				}
				continue
			}
			want := string([]byte{byte(many)}) + text
			for range many {
				want += "\x00"
			}
			if string(b) != want || e != api.OK {
				t.Errorf("%x by %d: %x %d", text, many, b, e)
			}
		}
	}
	if b, e := Pad(nil, 0); string(b) != "\x00" || e != api.OK {
		t.Errorf("nothing by nothing: %x %d", b, e)
	}
}

// P3.1: every first byte, ahead of every number of bytes around it; the padding may be of any value.
func TestUnpad(t *testing.T) {
	for first := range 256 {
		for behind := range 300 {
			b := append([]byte{byte(first)}, bytes.Repeat([]byte{1, 2, 3}, 100)[:behind]...)
			o, many, e := Unpad(b)
			if first > behind {
				if len(o) != 0 || many != 0 || e != api.ErrMore {
					t.Fatalf("%d ahead of %d: %x %d %d", first, behind, o, many, e)
				}
				continue
			}
			if !bytes.Equal(o, b[1:1+behind-first]) || many != first+1 || e != api.OK {
				t.Fatalf("%d ahead of %d: %x %d %d", first, behind, o, many, e)
			}
		}
	}
}

// P3.1: without a first byte there is nothing to tell.
func TestUnpadShort(t *testing.T) {
	for _, b := range [][]byte{nil, {}} {
		if o, many, e := Unpad(b); len(o) != 0 || many != 0 || e != api.ErrShort {
			t.Errorf("%x %d %d", o, many, e)
		}
	}
	if o, many, e := Unpad([]byte{0}); len(o) != 0 || many != 1 || e != api.OK {
		t.Errorf("%x %d %d", o, many, e)
	}
	if o, many, e := Unpad([]byte{1}); len(o) != 0 || many != 0 || e != api.ErrMore {
		t.Errorf("%x %d %d", o, many, e)
	}
}

// P3.2: the chapter's example, and each part in its place.
func TestPutRank(t *testing.T) {
	for _, c := range []struct {
		r    api.Rank
		want string
	}{
		{api.Rank{Alone: true, Dep: 3, Weight: 15}, "\x80\x00\x00\x03\x0f"},
		{api.Rank{}, "\x00\x00\x00\x00\x00"},
		{api.Rank{Alone: true}, "\x80\x00\x00\x00\x00"},
		{api.Rank{Dep: 0x01020304, Weight: 5}, "\x01\x02\x03\x04\x05"},
		{api.Rank{Dep: 1<<31 - 1, Weight: 255}, "\x7f\xff\xff\xff\xff"},
		{api.Rank{Alone: true, Dep: 1<<31 - 1, Weight: 128}, "\xff\xff\xff\xff\x80"},
		{api.Rank{Dep: 1 << 30}, "\x40\x00\x00\x00\x00"},
	} {
		if b, e := PutRank(c.r); string(b) != c.want || e != api.OK {
			t.Errorf("%+v: %x %d", c.r, b, e)
		}
	}
}

// P3.2: what may be a Dep, and what may not.
func TestPutRankRefuses(t *testing.T) {
	for _, dep := range extremes {
		for _, alone := range []bool{false, true} {
			b, e := PutRank(api.Rank{Alone: alone, Dep: dep, Weight: 1})
			may := dep >= 0 && dep <= 2147483647
			if may && (len(b) != 5 || e != api.OK) || !may && (len(b) != 0 || e != api.ErrArg) {
				t.Errorf("%d %v: %x %d", dep, alone, b, e)
			}
		}
	}
}

// P3.2: the rank, and all that stands behind it.
func TestTakeRank(t *testing.T) {
	for _, c := range []struct {
		b    string
		want api.Rank
		rest string
	}{
		{"\x80\x00\x00\x03\x0f", api.Rank{Alone: true, Dep: 3, Weight: 15}, ""},
		{"\x00\x00\x00\x00\x00\x00", api.Rank{}, "\x00"},
		{"\x01\x02\x03\x04\x05hello", api.Rank{Dep: 0x01020304, Weight: 5}, "hello"},
		{"\x7f\xff\xff\xff\xff\xff", api.Rank{Dep: 1<<31 - 1, Weight: 255}, "\xff"},
		{"\xff\xff\xff\xff\x80", api.Rank{Alone: true, Dep: 1<<31 - 1, Weight: 128}, ""},
		{"\x40\x00\x00\x00\x00", api.Rank{Dep: 1 << 30}, ""},
	} {
		r, rest, e := TakeRank([]byte(c.b))
		if r != c.want || string(rest) != c.rest || e != api.OK {
			t.Errorf("%x: %+v %x %d", c.b, r, rest, e)
		}
	}
}

// P3.2: fewer than 5 bytes are no rank.
func TestTakeRankShort(t *testing.T) {
	for many := range 5 {
		if r, rest, e := TakeRank([]byte{255, 255, 255, 255}[:many]); r != (api.Rank{}) || len(rest) != 0 || e != api.ErrShort {
			t.Errorf("%d: %+v %x %d", many, r, rest, e)
		}
	}
	if r, rest, e := TakeRank(nil); r != (api.Rank{}) || len(rest) != 0 || e != api.ErrShort {
		t.Errorf("nil: %+v %x %d", r, rest, e)
	}
}

// P3.3: the chapter's example, and several, one behind the other.
func TestPutPairs(t *testing.T) {
	for _, c := range []struct {
		l    []api.Pair
		want string
	}{
		{nil, ""},
		{[]api.Pair{}, ""},
		{[]api.Pair{{Id: 4, Value: 258}}, "\x00\x04\x00\x00\x01\x02"},
		{[]api.Pair{{}}, "\x00\x00\x00\x00\x00\x00"},
		{[]api.Pair{{Id: 0x0102, Value: 0x03040506}, {Id: 65535, Value: 1<<32 - 1}}, "\x01\x02\x03\x04\x05\x06\xff\xff\xff\xff\xff\xff"},
		{[]api.Pair{{Id: 3, Value: 1}, {Id: 3, Value: 2}, {Id: 1, Value: 1 << 31}}, "\x00\x03\x00\x00\x00\x01\x00\x03\x00\x00\x00\x02\x00\x01\x80\x00\x00\x00"},
	} {
		if b := PutPairs(c.l...); string(b) != c.want {
			t.Errorf("%v: %x", c.l, b)
		}
		if l, e := TakePairs([]byte(c.want)); !slices.Equal(l, c.l) || e != api.OK {
			t.Errorf("%x: %v %d", c.want, l, e)
		}
	}
	if b := PutPairs(api.Pair{Id: 1, Value: 2}, api.Pair{Id: 3, Value: 4}); string(b) != "\x00\x01\x00\x00\x00\x02\x00\x03\x00\x00\x00\x04" {
		t.Errorf("%x", b)
	}
}

// P3.3: only multiples of 6 bytes are settings.
func TestTakePairsShort(t *testing.T) {
	all := bytes.Repeat([]byte{9}, 40)
	for many := range 40 {
		l, e := TakePairs(all[:many])
		if many%6 == 0 && (len(l) != many/6 || e != api.OK) || many%6 != 0 && (len(l) != 0 || e != api.ErrShort) {
			t.Errorf("%d: %v %d", many, l, e)
		}
	}
}

// P3.3: of several of one Id the last one counts; one whose Value is 0 is there.
func TestLast(t *testing.T) {
	l := []api.Pair{{Id: 1, Value: 7}, {Id: 2, Value: 8}, {Id: 1, Value: 9}, {Id: 65535, Value: 1<<32 - 1}, {Id: 2, Value: 0}, {Id: 0, Value: 5}}
	for _, c := range []struct {
		id   uint16
		want uint32
		ok   bool
	}{{1, 9, true}, {2, 0, true}, {65535, 1<<32 - 1, true}, {0, 5, true}, {3, 0, false}, {9, 0, false}, {5, 0, false}} {
		if v, ok := Last(l, c.id); v != c.want || ok != c.ok {
			t.Errorf("%d: %d %v", c.id, v, ok)
		}
	}
	if v, ok := Last(l[:2], 1); v != 7 || !ok {
		t.Error(v, ok)
	}
	for _, none := range [][]api.Pair{nil, {}} {
		if v, ok := Last(none, 0); v != 0 || ok {
			t.Error(v, ok)
		}
	}
}

// P3.3: the same settings in the same order; nil and empty are the same.
func TestPairs(t *testing.T) {
	x, y, z := api.Pair{Id: 1, Value: 2}, api.Pair{Id: 1, Value: 3}, api.Pair{Id: 2, Value: 2}
	lists := [][]api.Pair{{}, {x}, {y}, {z}, {x, y}, {y, x}, {x, x}, {x, z}, {x, y, z}, {{}}}
	for i, a := range lists {
		for j, b := range lists {
			if Pairs(a, append([]api.Pair{}, b...)) != (i == j) {
				t.Errorf("%v and %v", a, b)
			}
		}
	}
	if !Pairs(nil, nil) || !Pairs(nil, []api.Pair{}) || !Pairs([]api.Pair{}, nil) || Pairs(nil, []api.Pair{{}}) {
		t.Error("nil")
	}
}

// P3.4: what is padded is taken, by each number.
func TestWhatIsPaddedIsTaken(t *testing.T) {
	for _, text := range texts() {
		for many := range 256 {
			b, _ := Pad([]byte(text), many)
			if o, all, e := Unpad(b); string(o) != text || all != many+1 || e != api.OK {
				t.Errorf("%x by %d: %x %d %d", text, many, o, all, e)
			}
		}
	}
}

// P3.4: what is unpadded has just those bytes, but for the padding's values.
func TestWhatIsUnpaddedHasItsBytes(t *testing.T) {
	next := chance()
	for i := range 2000 {
		b := make([]byte, 1+i%70)
		for j := range b {
			b[j] = next()
		}
		o, all, e := Unpad(b)
		if e != api.OK {
			continue
		}
		again, e := Pad(o, all-1)
		for j := len(b) - all + 1; j < len(b); j++ {
			b[j] = 0
		}
		if !bytes.Equal(again, b) || e != api.OK {
			t.Fatalf("%x: %x %d", b, again, e)
		}
	}
}

// P3.4: ranks that are put are taken, with what stands behind them; and the bytes of those that are taken are just those.
func TestRanksBothWays(t *testing.T) {
	for _, dep := range extremes {
		for _, weight := range []uint8{0, 1, 15, 127, 128, 255} {
			for _, alone := range []bool{false, true} {
				r := api.Rank{Alone: alone, Dep: dep, Weight: weight}
				b, e := PutRank(r)
				if e != api.OK {
					continue
				}
				if o, rest, e := TakeRank(append(b, "tail"...)); o != r || string(rest) != "tail" || e != api.OK {
					t.Errorf("%+v: %+v %x %d", r, o, rest, e)
				}
			}
		}
	}
	next := chance()
	for range 2000 {
		b := []byte{next(), next(), next(), next(), next()}
		r, _, e := TakeRank(b)
		if o, e2 := PutRank(r); !bytes.Equal(o, b) || e != api.OK || e2 != api.OK {
			t.Fatalf("%x: %+v %x", b, r, o)
		}
	}
}

// P3.4: settings that are put are taken; and the bytes of those that are taken are just those.
func TestSettingsBothWays(t *testing.T) {
	var l []api.Pair
	for id := range 17 {
		for shift := range 33 {
			l = append(l, api.Pair{Id: uint16(1<<id - 1), Value: uint32(1<<shift - 1)})
			if o, e := TakePairs(PutPairs(l...)); !slices.Equal(o, l) || !Pairs(o, l) || e != api.OK {
				t.Fatalf("%v: %v %d", l, o, e)
			}
		}
	}
	next := chance()
	for many := range 50 {
		b := make([]byte, 6*many)
		for j := range b {
			b[j] = next()
		}
		o, e := TakePairs(b)
		if !bytes.Equal(PutPairs(o...), b) || e != api.OK {
			t.Fatalf("%x: %v %d", b, o, e)
		}
	}
}

// R4: nothing that is handed in is changed, spare room behind it included, whatever becomes of the answers.
func TestArgumentsStay(t *testing.T) {
	for _, text := range append(texts(), "\x02\x07\x08\x00\x00", "\x80\x00\x00\x03\x0ftail", "\x00\x04\x00\x00\x01\x02") {
		part, all := roomy(text)
		before := string(all)
		padded, _ := Pad(part, 255)
		bare, _ := Pad(part, 0)
		inner, _, _ := Unpad(part)
		_, rest, _ := TakeRank(part)
		TakePairs(part)
		for _, b := range [][]byte{padded, bare, inner, rest} {
			_ = append(b, 1, 2, 3)
			for i := range b {
				b[i] = 0xee
			}
		}
		if string(all) != before {
			t.Errorf("%x became %x", before, all)
		}
	}
	l := []api.Pair{{Id: 1, Value: 2}, {Id: 3, Value: 4}, {Id: 5, Value: 6}}
	PutPairs(l[:2]...)
	Last(l[:2], 1)
	Pairs(l[:2], l[1:])
	if !slices.Equal(l, []api.Pair{{Id: 1, Value: 2}, {Id: 3, Value: 4}, {Id: 5, Value: 6}}) {
		t.Error(l)
	}
}

// R4: an answer is new memory, and keeps nothing of what was handed in.
func TestAnswersAreNew(t *testing.T) {
	b := []byte("\x00hello")
	padded, _ := Pad(b, 0)
	inner, _, _ := Unpad(b)
	_, rest, _ := TakeRank(b)
	pairs, _ := TakePairs(b)
	other, _ := TakePairs(b)
	copy(b, "XXXXXX")
	if string(padded) != "\x00\x00hello" || string(inner) != "hello" || string(rest) != "o" {
		t.Errorf("%x %x %x", padded, inner, rest)
	}
	pairs[0].Id = 9
	if other[0].Id != 'h' {
		t.Error("TakePairs shares memory")
	}
	first, second := PutPairs(other...), PutPairs(other...)
	first[0] = 9
	if second[0] != 0 {
		t.Error("PutPairs shares memory")
	}
}
