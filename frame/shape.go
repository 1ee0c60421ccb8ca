package frame

import (
	"iter"

	"causey/api"
	"causey/field"
	"causey/head"
	"causey/octet"
)

// How many bytes stand in a payload.
const (
	numberSize = 4
	rankSize   = 5
	pingSize   = 8
	awaySize   = 2 * numberSize // Last and Code
)

// What settings may be.
const (
	greatestSwitch = 1 // of those that say yes or no
	leastFrame     = 1 << 14
	greatestFrame  = 1<<24 - 1
)

// taker reads a payload into a frame, and tells the fault of it.
type taker = func(f *api.Frame, b []byte) api.Fault

// shape is what the frames of a kind have.
type shape struct {
	of   func(stream int) bool                 // may they be of this stream?
	take taker                                 // reads their payload
	lay  func(f api.Frame) ([]byte, api.Errno) // their payload; it may share memory with the frame
}

// shapeOf is the shape of a kind, known or not.
func shapeOf(kind uint8) shape {
	if s, ok := shapes()[kind]; ok {
		return s
	}
	return shape{anyStream, takeRest, layRest}
}

// shapes are what each kind has.
func shapes() map[uint8]shape {
	one := func(stream int) bool { return stream != 0 }
	all := func(stream int) bool { return stream == 0 }
	none := func(int) bool { return false }
	return map[uint8]shape{
		api.FrData:     {one, takeData, layData},
		api.FrHeaders:  {one, takeHeaders, layHeaders},
		api.FrPriority: {one, takePriority, layPriority},
		api.FrReset:    {one, exactly(numberSize, takeReset), layReset},
		api.FrSettings: {all, takeSettings, laySettings},
		api.FrPush:     {none, takeRest, layRest},
		api.FrPing:     {all, exactly(pingSize, takeRest), layRest},
		api.FrGoaway:   {all, atLeast(awaySize, takeAway), layAway},
		api.FrWindow:   {anyStream, exactly(numberSize, takeWindow), layWindow},
		api.FrMore:     {one, takeRest, layRest},
		api.FrUrgency:  {all, atLeast(numberSize, takeUrgency), layUrgency},
	}
}

// anyStream lets a frame be of each stream, and of the whole.
func anyStream(int) bool { return true }

// exactly lets take read payloads of just so many bytes.
func exactly(size int, take taker) taker {
	return func(f *api.Frame, b []byte) api.Fault {
		if len(b) != size {
			return Whole(api.CoSize)
		}
		return take(f, b)
	}
}

// atLeast lets take read payloads of so many bytes or more.
func atLeast(size int, take taker) taker {
	return func(f *api.Frame, b []byte) api.Fault {
		if len(b) < size {
			return Whole(api.CoSize)
		}
		return take(f, b)
	}
}

// takeRest reads all of b as Data.
func takeRest(f *api.Frame, b []byte) api.Fault {
	f.Data = own(b)
	return api.Fault{}
}

// layRest is Data alone.
func layRest(f api.Frame) ([]byte, api.Errno) { return f.Data, api.OK }

// takeData reads Data, padded or not.
func takeData(f *api.Frame, b []byte) api.Fault {
	if !has(*f, api.FgPad) {
		return takeRest(f, b)
	}
	data, pad, e := field.Unpad(b)
	switch e {
	case api.ErrShort:
		return Whole(api.CoSize)
	case api.ErrMore:
		return Whole(api.CoProtocol)
	}
	f.Data, f.Pad = data, pad
	return api.Fault{}
}

// layData is Data, padded or not.
func layData(f api.Frame) ([]byte, api.Errno) {
	if !has(f, api.FgPad) {
		return f.Data, api.OK
	}
	// Pad counts the number's byte, too.
	return field.Pad(f.Data, f.Pad-1)
}

// takeHeaders reads what is padded, and of it a rank, if there is one.
func takeHeaders(f *api.Frame, b []byte) api.Fault {
	// Too few bytes go ahead of a padding that is too long.
	if len(b) < leastHeaders(*f) {
		return Whole(api.CoSize)
	}
	x := takeData(f, b)
	if x.Whole || !has(*f, api.FgRank) {
		return x
	}
	return takeRank(f, f.Data)
}

// layHeaders is a rank, if there is one, and Data, padded or not.
func layHeaders(f api.Frame) ([]byte, api.Errno) {
	if has(f, api.FgRank) {
		rank, e := field.PutRank(f.Rank)
		if e != api.OK {
			return nil, e
		}
		f.Data = append(rank, f.Data...)
	}
	return layData(f)
}

// leastHeaders is how many bytes a payload of FrHeaders has at least.
func leastHeaders(f api.Frame) int {
	n := 0
	if has(f, api.FgPad) {
		n++
	}
	if has(f, api.FgRank) {
		n += rankSize
	}
	return n
}

// takePriority reads a rank and nothing else.
func takePriority(f *api.Frame, b []byte) api.Fault {
	if len(b) != rankSize {
		return Of(f.Stream, api.CoSize)
	}
	return takeRank(f, b)
}

// layPriority is a rank alone.
func layPriority(f api.Frame) ([]byte, api.Errno) { return field.PutRank(f.Rank) }

// takeRank reads a rank, and what stands behind it as Data.
func takeRank(f *api.Frame, b []byte) api.Fault {
	rank, rest, e := field.TakeRank(b)
	if e != api.OK {
		return Whole(api.CoProtocol)
	}
	f.Ranked, f.Rank, f.Data = true, rank, rest
	if rank.Dep == f.Stream {
		return Of(f.Stream, api.CoProtocol)
	}
	return api.Fault{}
}

// takeReset reads a Code.
func takeReset(f *api.Frame, b []byte) api.Fault {
	f.Code = code(b, 0)
	return api.Fault{}
}

// layReset is a Code.
func layReset(f api.Frame) ([]byte, api.Errno) { return numbers(nil, int(f.Code)) }

// takeSettings reads settings; the first that may not be is the fault.
func takeSettings(f *api.Frame, b []byte) api.Fault {
	x := Whole(api.CoSize)
	l, e := field.TakePairs(b)
	if e != api.OK || len(l) > 0 && has(*f, api.FgAck) {
		goto wrong
	}
	for c := range codes(l) {
		if c != api.NoFault {
			x = Whole(c)
			goto wrong
		}
	}
	f.Pairs = l
	return api.Fault{}
wrong:
	return x
}

// laySettings is settings.
func laySettings(f api.Frame) ([]byte, api.Errno) { return field.PutPairs(f.Pairs...), api.OK }

// codes gives of each setting the code of its fault.
func codes(l []api.Pair) iter.Seq[uint32] {
	return func(yield func(uint32) bool) {
		for _, p := range l {
			if !yield(judge(p)) {
				return
			}
		}
	}
}

// judge is the code of a setting's fault.
func judge(p api.Pair) uint32 {
	switch p.Id {
	case api.SePush, api.SePlain:
		if p.Value > greatestSwitch {
			return api.CoProtocol
		}
	case api.SeFrame:
		if p.Value < leastFrame || p.Value > greatestFrame {
			return api.CoProtocol
		}
	case api.SeWindow:
		if p.Value > api.MaxWindow {
			return api.CoFlow
		}
	}
	return api.NoFault
}

// takeAway reads a last stream, a Code, and Data.
func takeAway(f *api.Frame, b []byte) api.Fault {
	f.Last, f.Code = low(b), code(b, numberSize)
	return takeRest(f, b[awaySize:])
}

// layAway is a last stream, a Code, and Data.
func layAway(f api.Frame) ([]byte, api.Errno) { return numbers(f.Data, f.Last, int(f.Code)) }

// takeWindow reads an Inc; one of 0 is its stream's fault, and of no stream the whole's.
func takeWindow(f *api.Frame, b []byte) api.Fault {
	f.Inc = low(b)
	switch {
	case f.Inc != 0:
		return api.Fault{}
	case f.Stream == 0:
		return Whole(api.CoProtocol)
	}
	return Of(f.Stream, api.CoProtocol)
}

// layWindow is an Inc.
func layWindow(f api.Frame) ([]byte, api.Errno) { return numbers(nil, f.Inc) }

// takeUrgency reads whose urgency it is, and Data.
func takeUrgency(f *api.Frame, b []byte) api.Fault {
	f.Last = low(b)
	if f.Last == 0 {
		return Whole(api.CoProtocol)
	}
	return takeRest(f, b[numberSize:])
}

// layUrgency is whose urgency it is, and Data.
func layUrgency(f api.Frame) ([]byte, api.Errno) { return numbers(f.Data, f.Last) }

// has tells whether all bits of flag are set in f's Flags.
func has(f api.Frame, flag uint8) bool { return head.Has(headOf(f, 0), flag) }

// low is the first number of b, without its highest bit; its bytes are there, so that the call does not err.
func low(b []byte) int {
	n, _ := octet.Stream(b, 0)
	return n
}

// code is the Code at place at of b; its bytes are there, so that the call does not err.
func code(b []byte, at int) uint32 {
	n, _ := octet.Take(b, at, numberSize)
	return uint32(n)
}

// numbers are these, one behind the other, and data behind them.
func numbers(data []byte, l ...int) ([]byte, api.Errno) {
	var b []byte
	for _, n := range l {
		c, e := octet.Put(n, numberSize)
		if e != api.OK {
			return nil, e
		}
		b = append(b, c...)
	}
	return append(b, data...), api.OK
}
