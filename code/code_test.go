package code

import (
	"math"
	"slices"
	"testing"

	"cattlegrid/api"
	"cattlegrid/ops"
)

// bound is, for a kind of operand, how many bytes tell it, and the first and the last that fits.
type bound struct {
	kind, width int
	first, last int64
}

// bounds are those of all kinds, as the chapters of instructions and of code tell them.
var bounds = []bound{
	{0, 0, 0, 0},
	{1, 4, -2147483648, 2147483647},
	{2, 8, math.MinInt64, math.MaxInt64},
	{3, 1, 0, 11},
	{4, 1, 0, 6},
	{5, 2, 0, 159},
	{6, 2, 0, 63},
	{7, 2, 0, 63},
	{8, 2, 1, 16383},
}

// numberless are numbers that no instruction has, some of which are one if they are cut off.
var numberless = []int{0, 76, -1, 77, 128, 255, 256, 257, -255, 65536 + 1, 1<<32 + 1, math.MaxInt, math.MinInt}

// wild are numbers far from all that an operand with bounds may be, some of which are small if they are cut off.
var wild = []int64{-2, -256, -65536, 16385, 32767, 32768, 65535, 65536, 65537, 1 << 32, 1<<32 + 1, -1 << 32, math.MaxInt64, math.MinInt64, math.MinInt64 + 1}

// kindOf is the kind of the operand of an instruction, as layer 6 tells it.
func kindOf(t *testing.T, op int) int {
	t.Helper()
	x, e := ops.Of(op)
	if e != api.OK {
		t.Fatal(op, e)
	}
	return x.Operand
}

// withKind are the numbers of the instructions whose operand is of that kind.
func withKind(t *testing.T, kind int) []int {
	t.Helper()
	var l []int
	for op := 1; op <= 75; op++ {
		if kindOf(t, op) == kind {
			l = append(l, op)
		}
	}
	if len(l) == 0 {
		t.Fatal("none with kind", kind)
	}
	return l
}

// low is the lowest n bytes of x, the lowest first.
func low(x int64, n int) []byte {
	var b []byte
	for range n {
		b = append(b, byte(x))
		x >>= 8
	}
	return b
}

// nops are n of them.
func nops(n int) []api.Instr {
	return slices.Repeat([]api.Instr{{Op: api.ONop}}, n)
}

// join puts lists of instructions together.
func join(parts ...[]api.Instr) []api.Instr {
	return slices.Concat(parts...)
}

func one(op int, arg int64) []api.Instr {
	return []api.Instr{{Op: op, Arg: arg}}
}

// model is what the words of the chapter tell of the bytes of l, and of where each begins.
func model(t *testing.T, l []api.Instr) ([]byte, []int) {
	t.Helper()
	places := []int{0}
	for i, x := range l {
		places = append(places, places[i]+1+bounds[kindOf(t, x.Op)].width)
	}
	var b []byte
	for i, x := range l {
		b = append(b, byte(x.Op))
		kind := kindOf(t, x.Op)
		arg := x.Arg
		switch kind {
		case api.PPlace:
			arg = int64(places[x.Arg] - places[i+1])
		case api.PMethod, api.PField:
			arg++
		}
		b = append(b, low(arg, bounds[kind].width)...)
	}
	return b, places
}

// wantBoth holds all three calls against the model, there and back.
func wantBoth(t *testing.T, l []api.Instr) {
	t.Helper()
	b, places := model(t, l)
	if p, e := Places(l); e != api.OK || !slices.Equal(p, places) {
		t.Errorf("Places(%v): %v %v, want %v", l, p, e, places)
	}
	got, e := Encode(l)
	if e != api.OK || !slices.Equal(got, b) {
		t.Errorf("Encode(%v): % x %v, want % x", l, got, e, b)
	}
	wantDecoded(t, b, l, places)
	wantDecoded(t, got, l, places)
}

func wantDecoded(t *testing.T, b []byte, l []api.Instr, places []int) {
	t.Helper()
	m, p, at, e := Decode(b)
	if e != api.OK || at != 0 || !slices.Equal(m, l) || !slices.Equal(p, places) {
		t.Errorf("Decode(% x): %v %v %d %v, want %v %v", b, m, p, at, e, l, places)
	}
	again, e := Encode(m)
	if e != api.OK || !slices.Equal(again, b) {
		t.Errorf("Encode(%v): % x %v, want % x", m, again, e, b)
	}
}

func wantNoPlaces(t *testing.T, l []api.Instr, want api.Errno) {
	t.Helper()
	if p, e := Places(l); len(p) != 0 || e != want {
		t.Errorf("Places(%v): %v %v, want %v", l, p, e, want)
	}
}

func wantNoBytes(t *testing.T, l []api.Instr, want api.Errno) {
	t.Helper()
	if b, e := Encode(l); len(b) != 0 || e != want {
		t.Errorf("Encode(%v): % x %v, want %v", l, b, e, want)
	}
}

// wantRefused wants an error of Places, and the same of Encode.
func wantRefused(t *testing.T, l []api.Instr, want api.Errno) {
	t.Helper()
	wantNoPlaces(t, l, want)
	wantNoBytes(t, l, want)
}

func wantFault(t *testing.T, b []byte, wantAt int, want api.Errno) {
	t.Helper()
	l, p, at, e := Decode(b)
	if len(l) != 0 || len(p) != 0 || at != wantAt || e != want {
		t.Errorf("Decode(% x): %v %v %d %v, want %d %v", b, l, p, at, e, wantAt, want)
	}
}

// P7.1 to P7.4: the chapter's example, and one instruction of each kind of operand, byte by byte.
func TestOrdinary(t *testing.T) {
	for _, c := range []struct {
		l      []api.Instr
		b      []byte
		places []int
	}{
		{join(one(api.ONop, 0), one(api.OBr, 0)), []byte{0x01, 0x22, 0xfc, 0xff}, []int{0, 1, 4}},
		{one(api.OLdc4, -2), []byte{8, 0xfe, 0xff, 0xff, 0xff}, []int{0, 5}},
		{one(api.OLdc4, 0x12345678), []byte{8, 0x78, 0x56, 0x34, 0x12}, []int{0, 5}},
		{one(api.OLdc8, 0x0102030405060708), []byte{9, 8, 7, 6, 5, 4, 3, 2, 1}, []int{0, 9}},
		{one(api.OLdloc, 11), []byte{5, 11}, []int{0, 2}},
		{one(api.OStarg, 6), []byte{3, 6}, []int{0, 2}},
		{one(api.OCall, 0), []byte{43, 1, 0}, []int{0, 3}},
		{one(api.OLdftn, 63), []byte{67, 64, 0}, []int{0, 3}},
		{one(api.OLdfld, 0), []byte{48, 1, 0}, []int{0, 3}},
		{one(api.OStsfld, 63), []byte{52, 64, 0}, []int{0, 3}},
		{one(api.OBox, 0x1234), []byte{62, 0x34, 0x12}, []int{0, 3}},
		{one(api.ORet, 0), []byte{46}, []int{0, 1}},
		{join(one(api.OLeave, 2), one(api.OLdc8, 1), one(api.OOut, 0)), []byte{71, 9, 0, 9, 1, 0, 0, 0, 0, 0, 0, 0, 75}, []int{0, 3, 12, 13}},
	} {
		if p, e := Places(c.l); e != api.OK || !slices.Equal(p, c.places) {
			t.Errorf("Places(%v): %v %v, want %v", c.l, p, e, c.places)
		}
		if b, e := Encode(c.l); e != api.OK || !slices.Equal(b, c.b) {
			t.Errorf("Encode(%v): % x %v, want % x", c.l, b, e, c.b)
		}
		wantDecoded(t, c.b, c.l, c.places)
	}
}

// P7.1, P7.2, P7.3: no instruction at all: no byte, and the end alone as a place.
func TestNothing(t *testing.T) {
	for _, l := range [][]api.Instr{nil, {}} {
		wantBoth(t, l)
		if p, e := Places(l); e != api.OK || !slices.Equal(p, []int{0}) {
			t.Error(p, e)
		}
		if b, e := Encode(l); e != api.OK || len(b) != 0 {
			t.Error(b, e)
		}
	}
	for _, b := range [][]byte{nil, {}} {
		wantDecoded(t, b, nil, []int{0})
	}
}

// P7.1, P7.2, P7.4: each instruction alone, and all of them in a row.
func TestEachInstruction(t *testing.T) {
	var all []api.Instr
	for op := 1; op <= 75; op++ {
		x := api.Instr{Op: op, Arg: bounds[kindOf(t, op)].first}
		wantBoth(t, []api.Instr{x})
		all = append(all, x)
	}
	wantBoth(t, all)
}

// P7.1: at most MaxCode instructions, of the shortest and of the longest.
func TestPlacesFull(t *testing.T) {
	for _, x := range []api.Instr{{Op: api.ONop}, {Op: api.OLdc8, Arg: -1}, {Op: api.OBr}, {Op: api.OBr, Arg: 159}} {
		wantBoth(t, slices.Repeat([]api.Instr{x}, api.MaxCode))
		for _, n := range []int{161, 162, 320, 5000} {
			wantRefused(t, slices.Repeat([]api.Instr{x}, n), api.ErrFull)
		}
	}
	p, e := Places(slices.Repeat(one(api.OLdc8, 7), 160))
	if e != api.OK || len(p) != 161 || p[159] != 1431 || p[160] != 1440 {
		t.Error(p, e)
	}
}

// P7.1, P7.2: an Op that is none is ErrArg, wherever it stands and whatever stands beside it.
func TestNoOp(t *testing.T) {
	for _, op := range numberless {
		for _, n := range append([]int64{0, 1, -1}, wild...) {
			wantRefused(t, one(op, n), api.ErrArg)
		}
		wantRefused(t, []api.Instr{{Op: op, T: api.Type{Kind: api.TInt}}}, api.ErrArg)
		wantRefused(t, join(one(op, 0), nops(3)), api.ErrArg)
		wantRefused(t, join(nops(159), one(op, 0)), api.ErrArg)
	}
}

// P7.1, P7.2: of each operand the first and the last that fits, those within, those beside them and those far away.
func TestOperandBounds(t *testing.T) {
	for _, c := range bounds {
		for _, op := range withKind(t, c.kind) {
			for _, n := range []int64{c.first, c.first/2 + c.last/2, c.last} {
				// As many nops, so that each place is one of theirs.
				wantBoth(t, join(nops(159), one(op, n)))
				wantBoth(t, join(one(op, n), nops(159)))
			}
			beside := slices.Clone(wild)
			if c.kind != api.PNum8 {
				beside = append(beside, c.first-1, c.last+1)
			}
			for _, n := range beside {
				if n < c.first || n > c.last {
					wantRefused(t, one(op, n), api.ErrArg)
					wantRefused(t, join(nops(159), one(op, n)), api.ErrArg)
					wantRefused(t, join(one(op, n), nops(159)), api.ErrArg)
				}
			}
		}
	}
}

// P7.1, P7.2: of one with a type a row of specs from 1 to 16383, in which all of two bytes that fit are told.
func TestRowsOfSpecs(t *testing.T) {
	for _, op := range withKind(t, api.PType) {
		for _, n := range []int64{1, 2, 255, 256, 257, 16382, 16383} {
			wantBoth(t, one(op, n))
		}
		for _, n := range []int64{0, -1, 16384, 16385, 65535, 65536, 65537} {
			wantRefused(t, one(op, n), api.ErrArg)
		}
	}
}

// P7.1, P7.2: T is the zero type, also where layer 6 has the type there.
func TestTypeThatIsToBeZero(t *testing.T) {
	for op := 1; op <= 75; op++ {
		first := bounds[kindOf(t, op)].first
		for _, x := range []api.Type{{Kind: api.TInt}, {Kind: api.TClass, Index: 1}, {Index: 1}, {Dims: 1}, {Ref: true}, {Kind: -1}, {Kind: 10, Index: -1, Dims: 9, Ref: true}} {
			wantRefused(t, []api.Instr{{Op: op, Arg: first, T: x}}, api.ErrArg)
			wantRefused(t, []api.Instr{{Op: op, T: x}}, api.ErrArg)
		}
	}
	wantRefused(t, []api.Instr{{Op: api.OBox, Arg: 16383, T: api.Type{Kind: api.TInt}}}, api.ErrArg)
}

// P7.2, P7.3: numbers of 32 and 64 bits, both ends and each byte of them.
func TestNumbers(t *testing.T) {
	for _, n := range []int64{0, 1, -1, 127, 128, 255, 256, -128, -129, 65535, 1 << 16, 1 << 24, -1 << 24, math.MaxInt32 - 1, math.MaxInt32, math.MinInt32, math.MinInt32 + 1} {
		wantBoth(t, one(api.OLdc4, n))
		wantBoth(t, one(api.OLdc8, n))
	}
	for _, n := range []int64{1 << 31, -1<<31 - 1, 1 << 32, 1 << 40, 1 << 48, 1 << 56, -1 << 56, math.MaxInt64 - 1, math.MaxInt64, math.MinInt64, math.MinInt64 + 1} {
		wantBoth(t, one(api.OLdc8, n))
	}
	for _, c := range []struct {
		n int64
		b []byte
	}{
		{math.MaxInt32, []byte{8, 0xff, 0xff, 0xff, 0x7f}},
		{math.MinInt32, []byte{8, 0, 0, 0, 0x80}},
		{math.MaxInt64, []byte{9, 0xff, 0xff, 0xff, 0xff, 0xff, 0xff, 0xff, 0x7f}},
		{math.MinInt64, []byte{9, 0, 0, 0, 0, 0, 0, 0, 0x80}},
	} {
		if b, e := Encode(one(int(c.b[0]), c.n)); e != api.OK || !slices.Equal(b, c.b) {
			t.Errorf("%d: % x %v", c.n, b, e)
		}
		if l, _, _, e := Decode(c.b); e != api.OK || !slices.Equal(l, one(int(c.b[0]), c.n)) {
			t.Errorf("% x: %v %v", c.b, l, e)
		}
	}
}

// P7.2, P7.3: ways back, to themselves, ahead and to the last one, from each place of a code to each.
func TestWays(t *testing.T) {
	rest := join(one(api.ONop, 0), one(api.OLdc8, 5), one(api.OLdloc, 1), one(api.OLdc4, -1), one(api.OCall, 2), one(api.ORet, 0))
	for _, op := range withKind(t, api.PPlace) {
		for from := range len(rest) + 1 {
			for to := range len(rest) + 1 {
				wantBoth(t, join(rest[:from], one(op, int64(to)), rest[from:]))
			}
		}
	}
	for _, c := range []struct {
		l   []api.Instr
		way []byte
	}{
		{one(api.OBr, 0), []byte{0xfd, 0xff}},
		{join(one(api.OBr, 1), nops(1)), []byte{0, 0}},
		{join(one(api.OBr, 2), nops(2)), []byte{1, 0}},
	} {
		if b, e := Encode(c.l); e != api.OK || !slices.Equal(b[1:3], c.way) {
			t.Errorf("%v: % x %v", c.l, b, e)
		}
	}
}

// P7.1, P7.2: a place that is the length of l or beyond it is no fault of Places, but one of Encode, whichever instruction has it.
func TestWayBehind(t *testing.T) {
	for _, op := range withKind(t, api.PPlace) {
		for _, n := range []int{1, 2, 80, 158, 159} {
			for _, from := range []int{0, n / 2, n - 1} {
				for _, to := range []int{n, min(n+1, 159), 159} {
					l := nops(n)
					l[from] = api.Instr{Op: op, Arg: int64(to)}
					if p, e := Places(l); e != api.OK || len(p) != n+1 || p[n] != n+2 {
						t.Errorf("Places: %d %d %d: %v %v", n, from, to, p, e)
					}
					wantNoBytes(t, l, api.ErrFlow)
				}
			}
		}
	}
	wantNoBytes(t, one(api.OBr, 1), api.ErrFlow)
	wantNoBytes(t, one(api.OBr, 159), api.ErrFlow)
	wantRefused(t, one(api.OBr, 160), api.ErrArg)
	wantRefused(t, one(api.OBr, -1), api.ErrArg)
	// Other operands than places may be beyond the length.
	wantBoth(t, one(api.OCall, 63))
	wantBoth(t, one(api.OLdc4, 1000))
}

// P7.2, P7.3: ways as long as they can be, ahead and back.
func TestLongestWays(t *testing.T) {
	long := slices.Repeat(one(api.OLdc8, math.MinInt64), 158)
	ahead := join(one(api.OBr, 159), long, one(api.OBr, 159))
	back := join(one(api.OLdc8, 1), long, one(api.OBr, 0))
	wantBoth(t, ahead)
	wantBoth(t, back)
	if b, e := Encode(ahead); e != api.OK || !slices.Equal(b[:3], []byte{34, 0x8e, 0x05}) {
		t.Errorf("% x %v", b[:3], e)
	}
	if b, e := Encode(back); e != api.OK || len(b) != 1434 || !slices.Equal(b[1431:], []byte{34, 0x66, 0xfa}) {
		t.Errorf("% x %v", b, e)
	}
}

// P7.1, P7.2: too many ahead of no raw instruction, and that ahead of a place that is beyond.
func TestOrderOfErrorsOfLists(t *testing.T) {
	wantRefused(t, make([]api.Instr, 161), api.ErrFull)
	wantRefused(t, join(nops(160), one(api.OBr, 160)), api.ErrFull)
	wantRefused(t, join(one(76, 0), nops(160)), api.ErrFull)
	wantRefused(t, join(nops(160), one(api.OBox, 0)), api.ErrFull)
	wantNoBytes(t, join(one(api.OBr, 159), nops(160)), api.ErrFull)
	wantNoBytes(t, join(one(api.OBr, 100), one(api.OBox, 0)), api.ErrArg)
	wantNoBytes(t, join(one(api.OBr, 100), one(0, 0)), api.ErrArg)
	wantNoBytes(t, join(one(api.OBox, 16384), one(api.OBr, 100)), api.ErrArg)
	wantNoBytes(t, join(one(api.OBr, 100), nops(158), one(api.OBr, 160)), api.ErrArg)
}

// P7.3: each byte that is no Op, at the beginning and behind others, whatever follows it.
func TestDecodeNoOp(t *testing.T) {
	for x := range 256 {
		if x >= 1 && x <= 75 {
			continue
		}
		op := byte(x)
		wantFault(t, []byte{op}, 0, api.ErrForm)
		wantFault(t, []byte{op, 1, 1}, 0, api.ErrForm)
		wantFault(t, []byte{op, op, 8}, 0, api.ErrForm)
		wantFault(t, []byte{1, op}, 1, api.ErrForm)
		wantFault(t, []byte{8, 1, 2, 3, 4, 5, 6, op, 1}, 7, api.ErrForm)
		wantFault(t, append(slices.Repeat([]byte{1}, 159), op), 159, api.ErrForm)
	}
}

// P7.3: each operand that is cut off within, at the beginning and behind others.
func TestDecodeShort(t *testing.T) {
	for _, c := range bounds {
		for _, op := range withKind(t, c.kind) {
			for n := range c.width {
				for _, fill := range []byte{0, 1, 0xff} {
					b := append([]byte{byte(op)}, slices.Repeat([]byte{fill}, n)...)
					wantFault(t, b, 1+n, api.ErrShort)
					wantFault(t, append([]byte{1, 5, 2}, b...), 4+n, api.ErrShort)
					wantFault(t, append(slices.Repeat([]byte{1}, 159), b...), 160+n, api.ErrShort)
				}
			}
		}
	}
}

// P7.3: each number of one or two bytes that an operand may be told by: those that fit, and the others.
func TestDecodeRange(t *testing.T) {
	for _, c := range []struct{ kind, width, first, last int }{
		{api.PLocal, 1, 0, 11},
		{api.PArg, 1, 0, 6},
		{api.PMethod, 2, 1, 64},
		{api.PField, 2, 1, 64},
		{api.PType, 2, 1, 16383},
	} {
		for i, op := range withKind(t, c.kind) {
			for n := range 1 << (8 * c.width) {
				// Of the first one each number, of the others those around the ends.
				if i > 0 && n > c.last+1 && n < 1<<(8*c.width)-1 {
					continue
				}
				b := append([]byte{byte(op)}, low(int64(n), c.width)...)
				if n < c.first || n > c.last {
					wantFault(t, b, 0, api.ErrRange)
					continue
				}
				arg := int64(n)
				if c.kind == api.PMethod || c.kind == api.PField {
					arg--
				}
				wantDecoded(t, b, one(op, arg), []int{0, 1 + c.width})
			}
		}
	}
	wantFault(t, []byte{1, 9, 0, 0, 0, 0, 0, 0, 0, 0, 43, 65, 0}, 10, api.ErrRange)
	wantFault(t, append(slices.Repeat([]byte{1}, 159), 62, 0, 64), 159, api.ErrRange)
}

// P7.3: from the midst of a code a way of each length: to instructions, into their midst, ahead of the first, to the end and behind it.
func TestDecodeWays(t *testing.T) {
	ahead := join(one(api.OLdc4, 0x01010101), nops(1), one(api.OCall, 0))
	behind := join(one(api.OLdloc, 1), one(api.OLdc8, 0x0101010101010101), nops(1))
	for _, op := range withKind(t, api.PPlace) {
		l := join(ahead, one(op, 0), behind)
		b, places := model(t, l)
		for way := -32768; way <= 32767; way++ {
			// Of the first one each way, of the others those around the code.
			if op != api.OBr && (way < -30 || way > 30) {
				continue
			}
			copy(b[10:], low(int64(way), 2))
			to := slices.Index(places[:7], 12+way)
			if to < 0 {
				wantFault(t, b, 9, api.ErrFlow)
				continue
			}
			l[3].Arg = int64(to)
			wantDecoded(t, b, l, places)
		}
	}
}

// P7.3: ways to the end, ahead of the first one, behind the last one and into the midst; the first one that is wrong is told.
func TestDecodeFlow(t *testing.T) {
	for _, c := range []struct {
		b  []byte
		at int
	}{
		{[]byte{34, 0, 0}, 0},
		{[]byte{34, 1, 0}, 0},
		{[]byte{34, 0xff, 0xff}, 0},
		{[]byte{34, 0xfe, 0xff}, 0},
		{[]byte{34, 0xfc, 0xff}, 0},
		{[]byte{34, 0, 0x80}, 0},
		{[]byte{34, 0xff, 0x7f}, 0},
		{[]byte{1, 34, 0, 0}, 1},
		{[]byte{1, 71, 0xfb, 0xff}, 1},
		{[]byte{34, 1, 0, 8, 1, 1, 1, 1}, 0},
		{[]byte{34, 4, 0, 8, 1, 1, 1, 1}, 0},
		{[]byte{34, 5, 0, 8, 1, 1, 1, 1}, 0},
		{[]byte{34, 0xfd, 0xff, 35, 0, 0, 36, 9, 0}, 6},
		{[]byte{34, 0xfd, 0xff, 35, 1, 0, 36, 9, 0}, 3},
		{[]byte{8, 1, 1, 1, 1, 42, 0xf9, 0xff}, 5},
	} {
		wantFault(t, c.b, c.at, api.ErrFlow)
	}
	// An operand that looks like an instruction is none.
	wantFault(t, []byte{34, 1, 0, 43, 1, 0}, 0, api.ErrFlow)
}

// P7.3: behind MaxCode instructions any byte is too much, whatever it is and whatever follows.
func TestDecodeFull(t *testing.T) {
	long, _ := model(t, slices.Repeat(one(api.OLdc8, 0x0101010101010101), 160))
	short := slices.Repeat([]byte{1}, 160)
	wantDecoded(t, long, slices.Repeat(one(api.OLdc8, 0x0101010101010101), 160), placesOf(160, 9))
	wantDecoded(t, short, nops(160), placesOf(160, 1))
	for x := range 256 {
		for _, b := range [][]byte{{byte(x)}, {byte(x), 0}, {byte(x), 0xff, 0xff}, slices.Repeat([]byte{byte(x)}, 3000)} {
			wantFault(t, slices.Concat(long, b), 1440, api.ErrFull)
			wantFault(t, slices.Concat(short, b), 160, api.ErrFull)
		}
	}
}

// placesOf are those of n instructions of so many bytes.
func placesOf(n, width int) []int {
	var l []int
	for i := range n + 1 {
		l = append(l, i*width)
	}
	return l
}

// P7.3: what is told first of several faults: the one that is met first, ways behind all others.
func TestOrderOfErrorsOfBytes(t *testing.T) {
	lost := []byte{34, 0xff, 0xff}
	for _, c := range []struct {
		b  []byte
		at int
		e  api.Errno
	}{
		{[]byte{0, 8, 1}, 0, api.ErrForm},
		{[]byte{5, 12, 0}, 0, api.ErrRange},
		{[]byte{5, 12, 8, 1}, 0, api.ErrRange},
		{[]byte{0, 5, 12}, 0, api.ErrForm},
		{[]byte{5, 11, 0, 5, 12}, 2, api.ErrForm},
		{[]byte{62, 0}, 2, api.ErrShort},
		{[]byte{62, 0xff}, 2, api.ErrShort},
		{append(slices.Clone(lost), 0), 3, api.ErrForm},
		{append(slices.Clone(lost), 8, 1), 5, api.ErrShort},
		{append(slices.Clone(lost), 5, 12), 3, api.ErrRange},
		{append(slices.Clone(lost), 34, 1), 5, api.ErrShort},
		{append(slices.Clone(lost), slices.Repeat([]byte{1}, 160)...), 162, api.ErrFull},
		{append(slices.Clone(lost), slices.Repeat([]byte{1}, 159)...), 0, api.ErrFlow},
		{append(slices.Repeat([]byte{1}, 160), 0), 160, api.ErrFull},
		{append(slices.Repeat([]byte{1}, 160), 8), 160, api.ErrFull},
		{append(slices.Repeat([]byte{1}, 160), 5, 12), 160, api.ErrFull},
		{append(slices.Repeat([]byte{1}, 160), lost...), 160, api.ErrFull},
		{append(slices.Repeat([]byte{1}, 159), 0, 1), 159, api.ErrForm},
		{append(slices.Repeat([]byte{1}, 159), 5, 12, 1), 159, api.ErrRange},
	} {
		wantFault(t, c.b, c.at, c.e)
	}
}

// R4: what is handed in stays as it was, spare room included, and what is answered shares nothing with it or with another answer.
func TestNothingIsShared(t *testing.T) {
	l := append(make([]api.Instr, 0, 16), join(one(api.OBrtrue, 2), one(api.OLdc8, -7), one(api.OBr, 0), one(api.OBox, 3))...)
	for i := range l[len(l):cap(l)] {
		l[:cap(l)][len(l)+i] = api.Instr{Op: -5, Arg: -5}
	}
	before := slices.Clone(l[:cap(l)])
	b, _ := Encode(l)
	p, _ := Places(l)
	room := append(make([]byte, 0, len(b)+16), b...)
	for i := range room[len(room):cap(room)] {
		room[:cap(room)][len(room)+i] = 0xee
	}
	kept := slices.Clone(room[:cap(room)])
	m, q, _, e := Decode(room)
	if e != api.OK || !slices.Equal(l[:cap(l)], before) || !slices.Equal(room[:cap(room)], kept) {
		t.Fatal("what was handed in was changed", e)
	}
	spoil(b, 0xaa)
	spoil(p, -9)
	spoil(room, 0xaa)
	spoil(l, api.Instr{Op: -9})
	if !slices.Equal(m, before[:4]) || !slices.Equal(q, []int{0, 3, 12, 15, 18}) {
		t.Error(m, q)
	}
	spoil(m, api.Instr{Op: -8})
	if !slices.Equal(q, []int{0, 3, 12, 15, 18}) {
		t.Error(q)
	}
	wantBoth(t, before[:4])
}

func spoil[T any](l []T, x T) {
	l = l[:cap(l)]
	for i := range l {
		l[i] = x
	}
}

// dice is a row of numbers that is the same in each run.
type dice uint64

func (d *dice) roll(n int) int {
	*d = *d*6364136223846793005 + 1442695040888963407
	return int(uint64(*d)>>33) % n
}

// P7.4: codes of all kinds and lengths, there and back.
func TestThereAndBack(t *testing.T) {
	d := dice(7)
	for range 1500 {
		n := 1 + d.roll(160)
		var l []api.Instr
		for range n {
			op := 1 + d.roll(75)
			c := bounds[kindOf(t, op)]
			arg := int64(d.roll(1<<30))<<34 ^ int64(d.roll(1<<30))<<8 ^ int64(d.roll(256))
			switch c.kind {
			case api.PNum4:
				arg = int64(int32(arg))
			case api.PNum8:
			case api.PPlace:
				arg = int64(d.roll(n))
			default:
				arg = c.first + int64(d.roll(int(c.last-c.first)+1))
			}
			l = append(l, api.Instr{Op: op, Arg: arg})
		}
		wantBoth(t, l)
	}
}

// P7.3, P7.4: any bytes: what is decoded is encoded to them, and is raw; beside an error there is nothing, and a place within.
func TestAnyBytes(t *testing.T) {
	d := dice(11)
	met := make(map[api.Errno]int)
	for range 60000 {
		b := make([]byte, d.roll(9))
		for i := range b {
			switch d.roll(4) {
			case 0:
				b[i] = byte(d.roll(256))
			case 1:
				b[i] = byte(d.roll(4)) - 3
			default:
				b[i] = byte(1 + d.roll(75))
			}
		}
		l, p, at, e := Decode(b)
		met[e]++
		if e != api.OK {
			if len(l) != 0 || len(p) != 0 || at < 0 || at > len(b) || (e == api.ErrShort) != (at == len(b)) {
				t.Errorf("Decode(% x): %v %v %d %v", b, l, p, at, e)
			}
			continue
		}
		wantDecoded(t, b, l, p)
		if q, e := Places(l); e != api.OK || !slices.Equal(p, q) {
			t.Errorf("Places(%v): %v %v, want %v", l, q, e, p)
		}
	}
	for _, e := range []api.Errno{api.OK, api.ErrForm, api.ErrShort, api.ErrRange, api.ErrFlow} {
		if met[e] < 100 {
			t.Errorf("%v was met %d times", e, met[e])
		}
	}
}
