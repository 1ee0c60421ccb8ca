package frame

import (
	"bytes"
	"math"
	"reflect"
	"slices"
	"strings"
	"testing"

	"causey/api"
)

// extremes are numbers that calls must bear wherever they take one.
var extremes = []int{math.MinInt, math.MinInt + 1, -1 << 32, -1 << 31, -257, -256, -2, -1, 0, 1, 2, 3, 255, 256, 257, 258, 65535, 65536, 1<<24 - 1, 1 << 24, 1<<31 - 2, 1<<31 - 1, 1 << 31, 1<<31 + 1, 1<<32 - 1, 1 << 32, 1 << 60, math.MaxInt - 1, math.MaxInt}

// kinds are all that are known, and some that are not.
var kinds = []uint8{0, 1, 2, 3, 4, 5, 6, 7, 8, 9, 10, 15, 16, 17, 18, 128, 255}

var fine = api.Fault{}

func whole(code uint32) api.Fault { return api.Fault{Whole: true, Code: code} }

func of(stream int, code uint32) api.Fault { return api.Fault{Stream: stream, Code: code} }

// number is what 4 bytes tell, by sums alone.
func number(b []byte) int {
	n := 0
	for _, c := range b[:4] {
		n = n*256 + int(c)
	}
	return n
}

// slowSizes is the fault of too few bytes, or too many, by the chapter's words.
func slowSizes(h api.Head, b []byte) api.Fault {
	padded, ranked, n := h.Flags/8%2 == 1, h.Flags/32%2 == 1, len(b)
	wrong := false
	switch h.Kind {
	case 0:
		wrong = padded && n == 0
	case 1:
		least := 0
		if padded {
			least = 1
		}
		if ranked {
			least += 5
		}
		wrong = n < least
	case 2:
		if n != 5 {
			return of(h.Stream, 6)
		}
	case 3, 8:
		wrong = n != 4
	case 4:
		wrong = n%6 != 0 || h.Flags%2 == 1 && n > 0
	case 6:
		wrong = n != 8
	case 7:
		wrong = n < 8
	case 16:
		wrong = n < 4
	}
	if wrong {
		return whole(6)
	}
	return fine
}

// slowPairs is the fault of settings, by the chapter's words.
func slowPairs(l []api.Pair) api.Fault {
	for _, p := range l {
		if (p.Id == 2 || p.Id == 9) && p.Value > 1 || p.Id == 5 && (p.Value < 16384 || p.Value > 16777215) {
			return whole(1)
		}
		if p.Id == 4 && p.Value > 2147483647 {
			return whole(3)
		}
	}
	return fine
}

// slowRank is the rank of 5 bytes.
func slowRank(b []byte) api.Rank {
	return api.Rank{Alone: b[0] > 127, Dep: number(b) % (1 << 31), Weight: b[4]}
}

// slowRead is what stands in a payload of the right size, and the faults behind that.
func slowRead(h api.Head, b []byte) (api.Frame, api.Fault) {
	f := api.Frame{Kind: h.Kind, Flags: h.Flags, Stream: h.Stream}
	switch h.Kind {
	case 0, 1, 2:
		if h.Kind != 2 && h.Flags/8%2 == 1 {
			f.Pad = 1 + int(b[0])
			if f.Pad > len(b) {
				return api.Frame{}, whole(1)
			}
			b = b[1 : len(b)-int(b[0])]
		}
		if h.Kind == 2 || h.Kind == 1 && h.Flags/32%2 == 1 {
			if len(b) < 5 {
				return api.Frame{}, whole(1)
			}
			f.Ranked, f.Rank, b = true, slowRank(b), b[5:]
		}
		f.Data = b
		if f.Ranked && f.Rank.Dep == h.Stream {
			return f, of(h.Stream, 1)
		}
	case 3:
		f.Code = uint32(number(b))
	case 4:
		for ; len(b) > 0; b = b[6:] {
			f.Pairs = append(f.Pairs, api.Pair{Id: uint16(b[0])*256 + uint16(b[1]), Value: uint32(number(b[2:]))})
		}
		if x := slowPairs(f.Pairs); x != fine {
			return api.Frame{}, x
		}
	case 7:
		f.Last, f.Code, f.Data = number(b)%(1<<31), uint32(number(b[4:])), b[8:]
	case 8:
		f.Inc = number(b) % (1 << 31)
		if f.Inc == 0 && h.Stream == 0 {
			return api.Frame{}, whole(1)
		} else if f.Inc == 0 {
			return f, of(h.Stream, 1)
		}
	case 16:
		f.Last, f.Data = number(b)%(1<<31), b[4:]
		if f.Last == 0 {
			return api.Frame{}, whole(1)
		}
	default:
		f.Data = b
	}
	return f, fine
}

// slow is what Parse is to tell, worked out by the chapter's words, step by step.
func slow(h api.Head, b []byte) (api.Frame, api.Fault) {
	one := slices.Contains([]uint8{0, 1, 2, 3, 9}, h.Kind)
	all := slices.Contains([]uint8{4, 6, 7, 16}, h.Kind)
	switch {
	case h.Stream < 0 || h.Stream > 2147483647:
		return api.Frame{}, whole(2)
	case len(b) > 16384:
		return api.Frame{}, whole(6)
	case h.Kind == 5, one && h.Stream == 0, all && h.Stream != 0:
		return api.Frame{}, whole(1)
	}
	x := slowSizes(h, b)
	if x.Whole {
		return api.Frame{}, x
	}
	if x != fine {
		return api.Frame{Kind: h.Kind, Flags: h.Flags, Stream: h.Stream}, x
	}
	return slowRead(h, b)
}

// equal tells whether both frames are the same, by the language's own look at them; nil and empty mean the same.
func equal(a, b api.Frame) bool {
	for _, f := range []*api.Frame{&a, &b} {
		if len(f.Data) == 0 {
			f.Data = nil
		}
		if len(f.Pairs) == 0 {
			f.Pairs = nil
		}
	}
	return reflect.DeepEqual(a, b)
}

// check holds what Parse tells against what is wanted.
func check(t *testing.T, h api.Head, b []byte, want api.Frame, fault api.Fault) {
	t.Helper()
	if f, x := Parse(h, b); !equal(f, want) || x != fault {
		t.Errorf("%+v %.60x: %+v %+v, not %+v %+v", h, b, f, x, want, fault)
	}
}

// chance gives numbers by a rule.
func chance() func(below int) int {
	seed := uint32(1)
	return func(below int) int {
		seed = seed*1664525 + 1013904223
		return int(seed>>8) % below
	}
}

// sample is a frame that may be, and its bytes.
type sample struct {
	f     api.Frame
	bytes string
}

// cases are frames that may be, of each kind and with each part, with their bytes written out.
func cases() []sample {
	rank := api.Rank{Alone: true, Dep: 3, Weight: 15}
	return []sample{
		{api.Frame{Kind: 0, Flags: 1, Stream: 3, Data: []byte("hello")}, "\x00\x00\x05\x00\x01\x00\x00\x00\x03hello"},
		{api.Frame{Kind: 0, Stream: 1}, "\x00\x00\x00\x00\x00\x00\x00\x00\x01"},
		{api.Frame{Kind: 0, Flags: 9, Stream: 1<<31 - 1, Data: []byte("hi"), Pad: 3}, "\x00\x00\x05\x00\x09\x7f\xff\xff\xff\x02hi\x00\x00"},
		{api.Frame{Kind: 0, Flags: 8, Stream: 1, Pad: 1}, "\x00\x00\x01\x00\x08\x00\x00\x00\x01\x00"},
		{api.Frame{Kind: 0, Flags: 8, Stream: 1, Pad: 256}, "\x00\x01\x00\x00\x08\x00\x00\x00\x01\xff" + strings.Repeat("\x00", 255)},
		{api.Frame{Kind: 0, Flags: 0xf7, Stream: 1, Data: []byte("\x09")}, "\x00\x00\x01\x00\xf7\x00\x00\x00\x01\x09"},
		{api.Frame{Kind: 1, Flags: 5, Stream: 1, Data: []byte("list")}, "\x00\x00\x04\x01\x05\x00\x00\x00\x01list"},
		{api.Frame{Kind: 1, Stream: 2}, "\x00\x00\x00\x01\x00\x00\x00\x00\x02"},
		{api.Frame{Kind: 1, Flags: 8, Stream: 1, Data: []byte("list"), Pad: 2}, "\x00\x00\x06\x01\x08\x00\x00\x00\x01\x01list\x00"},
		{api.Frame{Kind: 1, Flags: 32, Stream: 1, Data: []byte("list"), Ranked: true, Rank: rank}, "\x00\x00\x09\x01\x20\x00\x00\x00\x01\x80\x00\x00\x03\x0flist"},
		{api.Frame{Kind: 1, Flags: 32, Stream: 1, Ranked: true}, "\x00\x00\x05\x01\x20\x00\x00\x00\x01\x00\x00\x00\x00\x00"},
		{api.Frame{Kind: 1, Flags: 40, Stream: 1, Data: []byte("list"), Pad: 3, Ranked: true, Rank: rank}, "\x00\x00\x0c\x01\x28\x00\x00\x00\x01\x02\x80\x00\x00\x03\x0flist\x00\x00"},
		{api.Frame{Kind: 1, Flags: 0xff, Stream: 1, Pad: 1, Ranked: true, Rank: rank}, "\x00\x00\x06\x01\xff\x00\x00\x00\x01\x00\x80\x00\x00\x03\x0f"},
		{api.Frame{Kind: 2, Stream: 5, Ranked: true, Rank: rank}, "\x00\x00\x05\x02\x00\x00\x00\x00\x05\x80\x00\x00\x03\x0f"},
		{api.Frame{Kind: 2, Flags: 0xff, Stream: 5, Ranked: true, Rank: api.Rank{Dep: 1<<31 - 1, Weight: 255}}, "\x00\x00\x05\x02\xff\x00\x00\x00\x05\x7f\xff\xff\xff\xff"},
		{api.Frame{Kind: 3, Stream: 5, Code: 0x01020304}, "\x00\x00\x04\x03\x00\x00\x00\x00\x05\x01\x02\x03\x04"},
		{api.Frame{Kind: 3, Flags: 0xff, Stream: 5, Code: 1<<32 - 1}, "\x00\x00\x04\x03\xff\x00\x00\x00\x05\xff\xff\xff\xff"},
		{api.Frame{Kind: 3, Stream: 5}, "\x00\x00\x04\x03\x00\x00\x00\x00\x05\x00\x00\x00\x00"},
		{api.Frame{Kind: 4}, "\x00\x00\x00\x04\x00\x00\x00\x00\x00"},
		{api.Frame{Kind: 4, Flags: 1}, "\x00\x00\x00\x04\x01\x00\x00\x00\x00"},
		{api.Frame{Kind: 4, Flags: 0xfe, Pairs: []api.Pair{{Id: 4, Value: 258}}}, "\x00\x00\x06\x04\xfe\x00\x00\x00\x00\x00\x04\x00\x00\x01\x02"},
		{api.Frame{Kind: 4, Pairs: []api.Pair{{Id: 65535, Value: 1<<32 - 1}, {}, {Id: 9, Value: 1}}}, "\x00\x00\x12\x04\x00\x00\x00\x00\x00\xff\xff\xff\xff\xff\xff\x00\x00\x00\x00\x00\x00\x00\x09\x00\x00\x00\x01"},
		{api.Frame{Kind: 6, Flags: 1, Data: []byte("pingpong")}, "\x00\x00\x08\x06\x01\x00\x00\x00\x00pingpong"},
		{api.Frame{Kind: 6, Flags: 0xfe, Data: []byte("\xff\x00\x00\x00\x00\x00\x00\x00")}, "\x00\x00\x08\x06\xfe\x00\x00\x00\x00\xff\x00\x00\x00\x00\x00\x00\x00"},
		{api.Frame{Kind: 7, Last: 0x01020304, Code: 0xf5060708, Data: []byte("bye")}, "\x00\x00\x0b\x07\x00\x00\x00\x00\x00\x01\x02\x03\x04\xf5\x06\x07\x08bye"},
		{api.Frame{Kind: 7, Flags: 0xff}, "\x00\x00\x08\x07\xff\x00\x00\x00\x00\x00\x00\x00\x00\x00\x00\x00\x00"},
		{api.Frame{Kind: 7, Last: 1<<31 - 1, Code: 1<<32 - 1}, "\x00\x00\x08\x07\x00\x00\x00\x00\x00\x7f\xff\xff\xff\xff\xff\xff\xff"},
		{api.Frame{Kind: 8, Inc: 1}, "\x00\x00\x04\x08\x00\x00\x00\x00\x00\x00\x00\x00\x01"},
		{api.Frame{Kind: 8, Flags: 0xff, Stream: 4, Inc: 1<<31 - 1}, "\x00\x00\x04\x08\xff\x00\x00\x00\x04\x7f\xff\xff\xff"},
		{api.Frame{Kind: 9, Flags: 4, Stream: 1, Data: []byte("more")}, "\x00\x00\x04\x09\x04\x00\x00\x00\x01more"},
		{api.Frame{Kind: 9, Flags: 0xff, Stream: 1, Data: []byte("\xff")}, "\x00\x00\x01\x09\xff\x00\x00\x00\x01\xff"},
		{api.Frame{Kind: 9, Stream: 1}, "\x00\x00\x00\x09\x00\x00\x00\x00\x01"},
		{api.Frame{Kind: 16, Last: 5, Data: []byte("u=1")}, "\x00\x00\x07\x10\x00\x00\x00\x00\x00\x00\x00\x00\x05u=1"},
		{api.Frame{Kind: 16, Flags: 0xff, Last: 1<<31 - 1}, "\x00\x00\x04\x10\xff\x00\x00\x00\x00\x7f\xff\xff\xff"},
		{api.Frame{Kind: 10, Flags: 0xff, Stream: 7, Data: []byte("\xffabc")}, "\x00\x00\x04\x0a\xff\x00\x00\x00\x07\xffabc"},
		{api.Frame{Kind: 17}, "\x00\x00\x00\x11\x00\x00\x00\x00\x00"},
		{api.Frame{Kind: 255, Stream: 1<<31 - 1, Data: []byte("x")}, "\x00\x00\x01\xff\x00\x7f\xff\xff\xffx"},
	}
}

// headOfCase is the head of a case's frame; its Length is wrong on purpose, for Parse does not ask it.
func headOfCase(c sample) api.Head {
	return api.Head{Length: -7, Kind: c.f.Kind, Flags: c.f.Flags, Stream: c.f.Stream}
}

// P4.1: the chapter's examples.
func TestExamples(t *testing.T) {
	check(t, api.Head{Kind: api.FrWindow, Stream: 3}, make([]byte, 4), api.Frame{Kind: api.FrWindow, Stream: 3}, of(3, api.CoProtocol))
	check(t, api.Head{Kind: api.FrSettings, Flags: api.FgAck}, make([]byte, 6), api.Frame{}, whole(api.CoSize))
}

// P4.1: what stands in each kind's payload.
func TestParse(t *testing.T) {
	for _, c := range cases() {
		check(t, headOfCase(c), []byte(c.bytes[9:]), c.f, fine)
	}
}

// P4.1: the highest bit of Last and of Inc counts for nothing; that of a Code does.
func TestParseHighestBit(t *testing.T) {
	check(t, api.Head{Kind: 7}, []byte("\x80\x00\x00\x05\x80\x00\x00\x06"), api.Frame{Kind: 7, Last: 5, Code: 1<<31 + 6}, fine)
	check(t, api.Head{Kind: 8}, []byte("\xff\xff\xff\xff"), api.Frame{Kind: 8, Inc: 1<<31 - 1}, fine)
	check(t, api.Head{Kind: 8}, []byte("\x80\x00\x00\x00"), api.Frame{}, whole(1))
	check(t, api.Head{Kind: 8, Stream: 1}, []byte("\x80\x00\x00\x00"), api.Frame{Kind: 8, Stream: 1}, of(1, 1))
	check(t, api.Head{Kind: 16}, []byte("\x80\x00\x00\x00u"), api.Frame{}, whole(1))
	check(t, api.Head{Kind: 16}, []byte("\x80\x00\x00\x07u"), api.Frame{Kind: 16, Last: 7, Data: []byte("u")}, fine)
}

// P4.1: the padding may be of any value, and is told by its number alone.
func TestParsePadding(t *testing.T) {
	check(t, api.Head{Kind: 0, Flags: 8, Stream: 1}, []byte("\x02hixy"), api.Frame{Flags: 8, Stream: 1, Data: []byte("hi"), Pad: 3}, fine)
	check(t, api.Head{Kind: 0, Flags: 8, Stream: 1}, []byte("\x04hixy"), api.Frame{Flags: 8, Stream: 1, Pad: 5}, fine)
	check(t, api.Head{Kind: 0, Flags: 8, Stream: 1}, []byte("\x05hixy"), api.Frame{}, whole(1))
	check(t, api.Head{Kind: 1, Flags: 8, Stream: 1}, []byte("\x05hixy"), api.Frame{}, whole(1))
	check(t, api.Head{Kind: 9, Flags: 8, Stream: 1}, []byte("\x05hixy"), api.Frame{Kind: 9, Flags: 8, Stream: 1, Data: []byte("\x05hixy")}, fine)
}

// P4.1: a head that may not be, whatever else is wrong; its Length is not asked.
func TestParseHead(t *testing.T) {
	for _, kind := range kinds {
		for _, stream := range extremes {
			for _, size := range []int{0, 4, 5, 8, 16385} {
				h := api.Head{Kind: kind, Stream: stream}
				b := bytes.Repeat([]byte{1}, size)
				want, fault := slow(h, b)
				if (stream < 0 || stream >= 1<<31) && fault != whole(2) {
					t.Fatal("the test is wrong")
				}
				for _, length := range extremes {
					h.Length = length
					check(t, h, b, want, fault)
				}
			}
		}
	}
}

// P4.1: MaxFrame bytes may be; one more is the first fault of all, of each kind and stream.
func TestParseTooLong(t *testing.T) {
	for _, kind := range kinds {
		for _, stream := range []int{0, 1} {
			for _, flags := range []uint8{0, 1, 8, 32, 40, 255} {
				h := api.Head{Kind: kind, Flags: flags, Stream: stream}
				for _, size := range []int{16385, 16386, 65536, 1 << 20} {
					check(t, h, make([]byte, size), api.Frame{}, whole(6))
				}
			}
		}
	}
	most := bytes.Repeat([]byte{1}, 16384)
	check(t, api.Head{Kind: 0, Stream: 1}, most, api.Frame{Stream: 1, Data: most}, fine)
	check(t, api.Head{Kind: 5, Stream: 1}, most, api.Frame{}, whole(1))
	check(t, api.Head{Kind: 77}, most, api.Frame{Kind: 77, Data: most}, fine)
	check(t, api.Head{Kind: 2, Stream: 1}, most, api.Frame{Kind: 2, Stream: 1}, of(1, 6))
}

// P4.1: which kinds are of a stream, of the whole, of both; it goes ahead of what is wrong with the payload.
func TestParseStream(t *testing.T) {
	for kind := range 256 {
		one := kind <= 3 || kind == 9
		all := kind == 4 || kind == 6 || kind == 7 || kind == 16
		for _, size := range []int{0, 3, 4, 5, 6, 8, 20} {
			b := make([]byte, size)
			if one || kind == 5 {
				check(t, api.Head{Kind: uint8(kind)}, b, api.Frame{}, whole(1))
			}
			if all || kind == 5 {
				check(t, api.Head{Kind: uint8(kind), Stream: 1}, b, api.Frame{}, whole(1))
				check(t, api.Head{Kind: uint8(kind), Stream: 1<<31 - 1}, b, api.Frame{}, whole(1))
			}
			if !one && !all && kind != 5 && kind != 8 {
				check(t, api.Head{Kind: uint8(kind)}, b, api.Frame{Kind: uint8(kind), Data: b}, fine)
				check(t, api.Head{Kind: uint8(kind), Stream: 1}, b, api.Frame{Kind: uint8(kind), Stream: 1, Data: b}, fine)
			}
		}
	}
	check(t, api.Head{Kind: 8}, []byte{0, 0, 0, 1}, api.Frame{Kind: 8, Inc: 1}, fine)
	check(t, api.Head{Kind: 8, Stream: 9}, []byte{0, 0, 0, 1}, api.Frame{Kind: 8, Stream: 9, Inc: 1}, fine)
}

// P4.1: too few bytes, or too many, of each kind; only PRIORITY's is its stream's.
func TestParseSizes(t *testing.T) {
	for _, c := range []struct {
		kind, flags uint8
		right       func(n int) bool
	}{
		{0, 0, func(int) bool { return true }},
		{0, 8, func(n int) bool { return n >= 1 }},
		{1, 0, func(int) bool { return true }},
		{1, 8, func(n int) bool { return n >= 1 }},
		{1, 32, func(n int) bool { return n >= 5 }},
		{1, 40, func(n int) bool { return n >= 6 }},
		{2, 0, func(n int) bool { return n == 5 }},
		{3, 0, func(n int) bool { return n == 4 }},
		{4, 0, func(n int) bool { return n%6 == 0 }},
		{4, 1, func(n int) bool { return n == 0 }},
		{6, 0, func(n int) bool { return n == 8 }},
		{6, 1, func(n int) bool { return n == 8 }},
		{7, 0, func(n int) bool { return n >= 8 }},
		{8, 0, func(n int) bool { return n == 4 }},
		{9, 8, func(int) bool { return true }},
		{16, 0, func(n int) bool { return n >= 4 }},
		{99, 255, func(int) bool { return true }},
	} {
		for n := range 31 {
			h := api.Head{Kind: c.kind, Flags: c.flags}
			if c.kind <= 3 || c.kind == 9 {
				h.Stream = 1
			}
			// Its first byte is a padding of 0, and the number of its first four is 2.
			b := append([]byte{0, 0, 0, 2}, make([]byte, 30)...)[:n]
			f, x := Parse(h, b)
			switch {
			case c.right(n) && (x != fine || f.Kind != h.Kind || f.Flags != h.Flags || f.Stream != h.Stream):
				t.Errorf("%+v of %d bytes: %+v %+v", h, n, f, x)
			case !c.right(n) && c.kind == 2 && (x != of(1, 6) || !equal(f, api.Frame{Kind: 2, Stream: 1})):
				t.Errorf("%+v of %d bytes: %+v %+v", h, n, f, x)
			case !c.right(n) && c.kind != 2 && (x != whole(6) || !equal(f, api.Frame{})):
				t.Errorf("%+v of %d bytes: %+v %+v", h, n, f, x)
			}
		}
	}
}

// P4.1: of HEADERS too few bytes go ahead of a padding that is too long; that, ahead of a rank that is its stream.
func TestParseHeadersInOrder(t *testing.T) {
	for _, c := range []struct {
		flags uint8
		b     string
		code  uint32
	}{
		{8, "", 6},
		{8, "\xff", 1},
		{8, "\x01", 1},
		{8, "\x00", 0},
		{32, "\x00\x00\x00\x00", 6},
		{40, "", 6},
		{40, "\xff", 6},
		{40, "\xff\x00\x00\x00\x00", 6},
		{40, "\xff\x00\x00\x00\x00\x00", 1},
		{40, "\x05\x00\x00\x00\x00\x00", 1},
		{40, "\x01\x00\x00\x00\x00\x00", 1},
		{40, "\x00\x00\x00\x00\x00\x00", 0},
		{40, "\x02\x00\x00\x00\x01\x00\x00", 1},
		{40, "\x01\x00\x00\x00\x00\x00\x00", 0},
	} {
		f, x := Parse(api.Head{Kind: 1, Flags: c.flags, Stream: 1}, []byte(c.b))
		if c.code == 0 && (x != fine || f.Kind != 1) || c.code != 0 && (x != whole(c.code) || !equal(f, api.Frame{})) {
			t.Errorf("%x %x: %+v %+v", c.flags, c.b, f, x)
		}
	}
}

// P4.1: a rank whose Dep is the frame's stream is the stream's fault, and the frame is told all the same.
func TestParseRankOfItself(t *testing.T) {
	for _, stream := range []int{1, 2, 3, 1<<31 - 1} {
		for _, alone := range []bool{false, true} {
			own := api.Rank{Alone: alone, Dep: stream, Weight: 7}
			b := []byte{byte(stream >> 24), byte(stream >> 16), byte(stream >> 8), byte(stream), 7}
			if alone {
				b[0] |= 0x80
			}
			check(t, api.Head{Kind: 2, Stream: stream}, b, api.Frame{Kind: 2, Stream: stream, Ranked: true, Rank: own}, of(stream, 1))
			b = append(b, "list"...)
			check(t, api.Head{Kind: 1, Flags: 37, Stream: stream}, b, api.Frame{Kind: 1, Flags: 37, Stream: stream, Data: []byte("list"), Ranked: true, Rank: own}, of(stream, 1))
			padded := append(append([]byte{2}, b...), 9, 9)
			check(t, api.Head{Kind: 1, Flags: 40, Stream: stream}, padded, api.Frame{Kind: 1, Flags: 40, Stream: stream, Data: []byte("list"), Pad: 3, Ranked: true, Rank: own}, of(stream, 1))
			check(t, api.Head{Kind: 1, Flags: 5, Stream: stream}, b, api.Frame{Kind: 1, Flags: 5, Stream: stream, Data: b}, fine)
		}
	}
}

// P4.1: each setting at the edges of what it may be.
func TestParseSettings(t *testing.T) {
	for id := range 12 {
		for _, value := range []uint32{0, 1, 2, 255, 256, 16383, 16384, 16385, 65535, 1<<24 - 1, 1 << 24, 1<<24 + 1, 1<<31 - 1, 1 << 31, 1<<32 - 1} {
			fault := fine
			switch {
			case (id == 2 || id == 9) && value > 1, id == 5 && (value < 16384 || value >= 1<<24):
				fault = whole(1)
			case id == 4 && value >= 1<<31:
				fault = whole(3)
			}
			b := []byte{0, byte(id), byte(value >> 24), byte(value >> 16), byte(value >> 8), byte(value)}
			want := api.Frame{}
			if fault == fine {
				want = api.Frame{Kind: 4, Pairs: []api.Pair{{Id: uint16(id), Value: value}}}
			}
			check(t, api.Head{Kind: 4}, b, want, fault)
			// An Id has two bytes.
			b[0] = 1
			check(t, api.Head{Kind: 4}, b, api.Frame{Kind: 4, Pairs: []api.Pair{{Id: uint16(256 + id), Value: value}}}, fine)
		}
	}
}

// P4.1: of several settings that may not be the first one counts; what is right ahead of it, or behind it, changes nothing.
func TestParseSettingsInOrder(t *testing.T) {
	right, push, window := "\x00\x03\x00\x00\x00\x01", "\x00\x02\x00\x00\x00\x02", "\x00\x04\x80\x00\x00\x00"
	frame, plain := "\x00\x05\x00\x00\x00\x00", "\x00\x09\xff\xff\xff\xff"
	for _, c := range []struct {
		b    string
		code uint32
	}{
		{push + window, 1},
		{window + push, 3},
		{right + window + frame, 3},
		{right + frame + window, 1},
		{plain + window + right, 1},
		{right + right + right + window, 3},
		{right + right + plain, 1},
		{window, 3},
	} {
		check(t, api.Head{Kind: 4}, []byte(c.b), api.Frame{}, whole(c.code))
		check(t, api.Head{Kind: 4}, []byte(c.b+"\x00"), api.Frame{}, whole(6))
		check(t, api.Head{Kind: 4, Flags: 1}, []byte(c.b), api.Frame{}, whole(6))
		check(t, api.Head{Kind: 4, Stream: 1}, []byte(c.b), api.Frame{}, whole(1))
	}
}

// P4.1, P4.4: payloads of every sort, of every kind, held against the chapter's words; each is a frame, or a fault.
func TestParseSlowly(t *testing.T) {
	next := chance()
	sizes := []int{0, 1, 2, 3, 4, 5, 6, 7, 8, 9, 11, 12, 13, 18, 40, 300}
	for i := range 60000 {
		h := api.Head{Length: next(3), Kind: kinds[next(len(kinds))], Stream: next(4)}
		if next(2) == 0 {
			h.Flags = uint8(next(256))
		}
		b := make([]byte, sizes[next(len(sizes))])
		for j := range b {
			// Mostly small numbers, so that settings, ranks and paddings come near their edges.
			if b[j] = byte(next(256)); next(4) > 0 {
				b[j] = byte(next(2) * next(12))
			}
		}
		want, fault := slow(h, b)
		f, x := Parse(h, b)
		if !equal(f, want) || x != fault {
			t.Fatalf("%d: %+v %x: %+v %+v, not %+v %+v", i, h, b, f, x, want, fault)
		}
		again(t, f, b, x)
	}
}

// again puts what was parsed: without a fault it may be, has as many bytes as its payload and 9, and is parsed as the same; with one it may not be.
func again(t *testing.T, f api.Frame, payload []byte, x api.Fault) {
	t.Helper()
	b, e := Put(f)
	if x.Whole {
		return
	}
	if x != fine {
		if Right(f) || len(b) != 0 || e != api.ErrArg {
			t.Fatalf("%+v of %+v: %x %d", f, x, b, e)
		}
		return
	}
	if !Right(f) || e != api.OK || len(b) != len(payload)+9 {
		t.Fatalf("%+v: %x %d", f, b, e)
	}
	if o, x := Parse(api.Head{Kind: f.Kind, Flags: f.Flags, Stream: f.Stream}, b[9:]); !equal(o, f) || !Same(o, f) || x != fine {
		t.Fatalf("%+v: %+v %+v", f, o, x)
	}
}

// P4.2: the bytes of each kind.
func TestPut(t *testing.T) {
	for _, c := range cases() {
		if b, e := Put(c.f); string(b) != c.bytes || e != api.OK {
			t.Errorf("%+v: %x %d", c.f, b, e)
		}
		if !Right(c.f) {
			t.Errorf("%+v may be", c.f)
		}
	}
}

// refused tells that a frame may not be.
func refused(t *testing.T, f api.Frame) {
	t.Helper()
	if b, e := Put(f); Right(f) || len(b) != 0 || e != api.ErrArg {
		t.Errorf("%+v: %v %x %d", f, Right(f), b, e)
	}
}

// P4.2: what a frame's kind has not may not be in it.
func TestPutRefusesWhatIsForeign(t *testing.T) {
	for _, c := range cases() {
		padded := (c.f.Kind == 0 || c.f.Kind == 1) && c.f.Flags&8 != 0
		changes := map[string]func(f *api.Frame){"Pad": func(f *api.Frame) { f.Pad = 1 }}
		if padded {
			changes["Pad"] = func(f *api.Frame) { f.Pad = 0 }
		}
		if c.f.Kind != 7 && c.f.Kind != 16 {
			changes["Last"] = func(f *api.Frame) { f.Last = 1 }
		}
		if c.f.Kind != 8 {
			changes["Inc"] = func(f *api.Frame) { f.Inc = 1 }
		}
		if c.f.Kind != 3 && c.f.Kind != 7 {
			changes["Code"] = func(f *api.Frame) { f.Code = 1 }
		}
		if c.f.Kind != 4 || c.f.Flags&1 != 0 {
			changes["Pairs"] = func(f *api.Frame) { f.Pairs = []api.Pair{{}} }
		}
		if c.f.Kind == 2 || c.f.Kind == 3 || c.f.Kind == 4 || c.f.Kind == 6 || c.f.Kind == 8 {
			changes["Data"] = func(f *api.Frame) { f.Data = []byte("sevenxy") }
		}
		changes["Ranked"] = func(f *api.Frame) { f.Ranked = !f.Ranked }
		if !c.f.Ranked {
			changes["Rank"] = func(f *api.Frame) { f.Rank = api.Rank{Weight: 1} }
			changes["Dep"] = func(f *api.Frame) { f.Rank = api.Rank{Dep: -1} }
		}
		for name, change := range changes {
			f := c.f
			change(&f)
			t.Run(name, func(t *testing.T) { refused(t, f) })
		}
	}
}

// P4.2: numbers at the edges of what may be put.
func TestPutRefusesNumbers(t *testing.T) {
	for _, n := range extremes {
		low := n >= 0 && n <= 1<<31-1
		for _, c := range []struct {
			f   api.Frame
			may bool
		}{
			{api.Frame{Kind: 7, Last: n}, low},
			{api.Frame{Kind: 8, Inc: n}, low && n > 0},
			{api.Frame{Kind: 8, Stream: 1, Inc: n}, low && n > 0},
			{api.Frame{Kind: 8, Stream: n, Inc: 1}, low},
			{api.Frame{Kind: 16, Last: n}, low && n > 0},
			{api.Frame{Kind: 0, Stream: n}, low && n > 0},
			{api.Frame{Kind: 200, Stream: n}, low},
			{api.Frame{Kind: 6, Stream: n, Data: make([]byte, 8)}, n == 0},
			{api.Frame{Kind: 5, Stream: n}, false},
			{api.Frame{Kind: 0, Flags: 8, Stream: 1, Pad: n}, n >= 1 && n <= 256},
			{api.Frame{Kind: 1, Flags: 8, Stream: 1, Pad: n}, n >= 1 && n <= 256},
			{api.Frame{Kind: 2, Stream: 1, Ranked: true, Rank: api.Rank{Dep: n}}, low && n != 1},
			{api.Frame{Kind: 1, Flags: 32, Stream: 2, Ranked: true, Rank: api.Rank{Dep: n}}, low && n != 2},
		} {
			if !c.may {
				refused(t, c.f)
			} else if b, e := Put(c.f); !Right(c.f) || len(b) < 9 || e != api.OK {
				t.Errorf("%+v: %x %d", c.f, b, e)
			}
		}
	}
}

// P4.2: payloads at the edge of MaxFrame, with all that stands in them.
func TestPutTooLong(t *testing.T) {
	data := bytes.Repeat([]byte{7}, 16385)
	for _, c := range []struct {
		f    api.Frame
		most int
	}{
		{api.Frame{Kind: 0, Stream: 1}, 16384},
		{api.Frame{Kind: 0, Flags: 8, Stream: 1, Pad: 1}, 16383},
		{api.Frame{Kind: 0, Flags: 8, Stream: 1, Pad: 256}, 16128},
		{api.Frame{Kind: 1, Flags: 40, Stream: 1, Pad: 11, Ranked: true}, 16368},
		{api.Frame{Kind: 7}, 16376},
		{api.Frame{Kind: 9, Stream: 1}, 16384},
		{api.Frame{Kind: 16, Last: 1}, 16380},
		{api.Frame{Kind: 99}, 16384},
	} {
		c.f.Data = data[:c.most]
		b, e := Put(c.f)
		if len(b) != 16384+9 || string(b[:3]) != "\x00\x40\x00" || e != api.OK || !Right(c.f) {
			t.Errorf("%d of kind %d: %d %d", c.most, c.f.Kind, len(b), e)
		}
		c.f.Data = data[:c.most+1]
		if b, e := Put(c.f); len(b) != 0 || e != api.ErrArg || Right(c.f) {
			t.Errorf("%d of kind %d: %d %d", c.most+1, c.f.Kind, len(b), e)
		}
	}
	for many, may := range map[int]bool{2730: true, 2731: false} {
		f := api.Frame{Kind: 4, Pairs: make([]api.Pair, many)}
		if b, e := Put(f); Right(f) != may || (e == api.OK) != may || may && len(b) != 9+6*many {
			t.Errorf("%d settings: %d %d", many, len(b), e)
		}
	}
}

// P4.2: settings that may not be, and sizes that may not be, are not put.
func TestPutRefusesFaults(t *testing.T) {
	for _, f := range []api.Frame{
		{Kind: 4, Pairs: []api.Pair{{Id: 2, Value: 2}}},
		{Kind: 4, Pairs: []api.Pair{{Id: 1, Value: 2}, {Id: 9, Value: 2}}},
		{Kind: 4, Pairs: []api.Pair{{Id: 5, Value: 16383}}},
		{Kind: 4, Pairs: []api.Pair{{Id: 4, Value: 1 << 31}}},
		{Kind: 4, Flags: 1, Pairs: []api.Pair{{Id: 4, Value: 1}}},
		{Kind: 4, Stream: 1},
		{Kind: 5, Stream: 1, Data: []byte("push")},
		{Kind: 5},
		{Kind: 6},
		{Kind: 6, Data: make([]byte, 7)},
		{Kind: 6, Data: make([]byte, 9)},
		{Kind: 7, Stream: 1},
		{Kind: 8},
		{Kind: 16},
		{},
		{Kind: 1},
		{Kind: 2, Ranked: true},
		{Kind: 2, Stream: 1},
		{Kind: 3},
		{Kind: 9},
	} {
		refused(t, f)
	}
}

// P4.3: each part of a frame, other than it was, makes another one.
func TestSame(t *testing.T) {
	full := api.Frame{Kind: 1, Flags: 2, Stream: 3, Data: []byte("data"), Pad: 4, Last: 5, Inc: 6, Code: 7, Pairs: []api.Pair{{Id: 8, Value: 9}}, Ranked: true, Rank: api.Rank{Alone: true, Dep: 10, Weight: 11}}
	list := []api.Frame{full, {}}
	for _, change := range []func(f *api.Frame){
		func(f *api.Frame) { f.Kind = 9 },
		func(f *api.Frame) { f.Flags = 9 },
		func(f *api.Frame) { f.Stream = -9 },
		func(f *api.Frame) { f.Data = []byte("date") },
		func(f *api.Frame) { f.Data = []byte("dat") },
		func(f *api.Frame) { f.Pad = 9 },
		func(f *api.Frame) { f.Last = 9 },
		func(f *api.Frame) { f.Inc = 9 },
		func(f *api.Frame) { f.Code = 9 },
		func(f *api.Frame) { f.Pairs = []api.Pair{{Id: 8, Value: 10}} },
		func(f *api.Frame) { f.Pairs = append([]api.Pair{{Id: 8, Value: 9}}, f.Pairs...) },
		func(f *api.Frame) { f.Ranked = false },
		func(f *api.Frame) { f.Rank.Alone = false },
		func(f *api.Frame) { f.Rank.Dep = 9 },
		func(f *api.Frame) { f.Rank.Weight = 9 },
	} {
		f := Own(full)
		change(&f)
		list = append(list, f)
	}
	for i, a := range list {
		for j, b := range list {
			if Same(a, b) != (i == j) {
				t.Errorf("%+v and %+v", a, b)
			}
		}
		if !Same(a, Own(a)) || !equal(a, Own(a)) {
			t.Errorf("%+v is not its own", a)
		}
	}
	if !Same(api.Frame{Data: []byte{}, Pairs: []api.Pair{}}, api.Frame{}) {
		t.Error("nil and empty mean the same")
	}
}

// P4.3: Own's memory is its own.
func TestOwn(t *testing.T) {
	data, pairs := []byte("hello"), []api.Pair{{Id: 1}, {Id: 2}}
	f := api.Frame{Data: data[:2], Pairs: pairs[:1]}
	o := Own(f)
	_, _ = append(o.Data, "XXX"...), append(o.Pairs, api.Pair{Id: 9})
	o.Data[0], o.Pairs[0].Id = 'J', 9
	if string(data) != "hello" || !slices.Equal(pairs, []api.Pair{{Id: 1}, {Id: 2}}) || string(f.Data) != "he" {
		t.Errorf("%s %v", data, pairs)
	}
	p := Own(o)
	data[1], pairs[0].Id = 'X', 8
	if string(o.Data) != "Je" || o.Pairs[0].Id != 9 || !Same(o, p) {
		t.Errorf("%+v %+v", o, p)
	}
	if o := Own(api.Frame{}); !equal(o, api.Frame{}) {
		t.Errorf("%+v", o)
	}
}

// P4.3: faults, of any code and of any stream.
func TestFaults(t *testing.T) {
	for _, code := range []uint32{0, 1, 2, 6, 11, 99, 1<<32 - 1} {
		if x := Whole(code); x != (api.Fault{Whole: true, Code: code}) {
			t.Errorf("%d: %+v", code, x)
		}
		for _, stream := range extremes {
			if x := Of(stream, code); x != (api.Fault{Stream: stream, Code: code}) {
				t.Errorf("%d %d: %+v", stream, code, x)
			}
		}
	}
}

// P4.4: what is put is parsed, without a fault.
func TestWhatIsPutIsParsed(t *testing.T) {
	for _, c := range cases() {
		b, _ := Put(c.f)
		again(t, c.f, b[9:], fine)
	}
	next := chance()
	pick := func(l ...int) int { return l[next(len(l))] }
	list, count := cases(), 0
	changes := []func(f *api.Frame){
		func(f *api.Frame) { f.Kind = kinds[next(len(kinds))] },
		func(f *api.Frame) { f.Flags = uint8(next(256)) },
		func(f *api.Frame) { f.Stream = next(4) },
		func(f *api.Frame) { f.Data = bytes.Repeat([]byte{byte(next(256))}, pick(0, 1, 4, 8, 30)) },
		func(f *api.Frame) { f.Pad = next(258) },
		func(f *api.Frame) { f.Last = pick(0, 1, 1<<31-1, 1<<31) },
		func(f *api.Frame) { f.Inc = pick(0, 1, 1<<31-1, 1<<31) },
		func(f *api.Frame) { f.Code = uint32(pick(0, 1, 1<<32-1)) },
		func(f *api.Frame) { f.Ranked = !f.Ranked },
		func(f *api.Frame) { f.Rank = api.Rank{Alone: next(2) == 0, Dep: next(4), Weight: uint8(next(256))} },
		func(f *api.Frame) {
			f.Pairs = append([]api.Pair{{Id: uint16(next(10)), Value: uint32(next(3))}}, f.Pairs...)
		},
	}
	for range 40000 {
		f := list[next(len(list))].f
		for range next(4) {
			changes[next(len(changes))](&f)
		}
		b, e := Put(f)
		if Right(f) != (e == api.OK) || (e == api.OK) != (len(b) >= 9) {
			t.Fatalf("%+v: %v %x %d", f, Right(f), b, e)
		}
		if e == api.OK {
			again(t, f, b[9:], fine)
			count++
		}
	}
	if count < 5000 {
		t.Errorf("only %d of these may be", count)
	}
}

// R4: nothing that is handed in is changed, spare room behind it included, whatever becomes of the answers.
func TestArgumentsStay(t *testing.T) {
	for _, c := range cases() {
		all := append([]byte(c.bytes[9:]), bytes.Repeat([]byte{0x5a}, 300)...)
		before := string(all)
		f, _ := Parse(headOfCase(c), all[:len(c.bytes)-9])
		for i := range f.Data {
			f.Data[i] ^= 0xff
		}
		_ = append(f.Data, 1, 2, 3)
		if string(all) != before {
			t.Errorf("%x became %x", before, all)
		}
		data := append(append([]byte{}, c.f.Data...), bytes.Repeat([]byte{0x5a}, 300)...)
		pairs := append(append([]api.Pair{}, c.f.Pairs...), api.Pair{Id: 99})
		before = string(data)
		c.f.Data, c.f.Pairs = data[:len(c.f.Data)], pairs[:len(c.f.Pairs)]
		b, _ := Put(c.f)
		Right(c.f)
		for i := range b {
			b[i] = 0xee
		}
		_ = append(b, 1, 2, 3)
		if string(data) != before || pairs[len(pairs)-1] != (api.Pair{Id: 99}) {
			t.Errorf("%x became %x", before, data)
		}
	}
}

// R4: an answer is new memory, and shares none with another.
func TestAnswersAreNew(t *testing.T) {
	for _, c := range cases() {
		payload := []byte(c.bytes[9:])
		f, _ := Parse(headOfCase(c), payload)
		g, _ := Parse(headOfCase(c), payload)
		for i := range payload {
			payload[i] ^= 0xff
		}
		for i := range g.Data {
			g.Data[i] ^= 0xff
		}
		for i := range g.Pairs {
			g.Pairs[i].Id++
		}
		if !equal(f, c.f) {
			t.Errorf("%+v became %+v", c.f, f)
		}
		a, _ := Put(f)
		b, _ := Put(f)
		for i := range b {
			b[i] ^= 0xff
		}
		if string(a) != c.bytes {
			t.Errorf("%x became %x", c.bytes, a)
		}
	}
}
