package body

import (
	"bytes"
	"encoding/binary"
	"math"
	"slices"
	"testing"

	"cattlegrid/api"
	"cattlegrid/code"
)

// someCode is n bytes, none of them 0, so that none of it is taken for what fills up.
func someCode(n int) []byte {
	b := make([]byte, n)
	for i := range b {
		b[i] = byte(i%251 + 1)
	}
	return b
}

// someClauses are n clauses, all of whose numbers are different, with a high and a low byte of their own.
func someClauses(n int) []api.Raw {
	var l []api.Raw
	for i := range n {
		x := 0x1020 + 0x600*i
		l = append(l, api.Raw{Kind: x, TryAt: x + 0x101, TryLen: x + 0x202, HandAt: x + 0x303, HandLen: x + 0x404, Extra: x + 0x505})
	}
	return l
}

// withNumber is a clause that is right, but for its number i, which is x.
func withNumber(i, x int) api.Raw {
	r := api.Raw{Kind: 1, TryAt: 2, TryLen: 3, HandAt: 4, HandLen: 5, Extra: 6}
	*[]*int{&r.Kind, &r.TryAt, &r.TryLen, &r.HandAt, &r.HandLen, &r.Extra}[i] = x
	return r
}

// modelBytes is what the words of the chapter tell of the bytes of x, which is right.
func modelBytes(x api.Body) []byte {
	if len(x.Code) < 64 && len(x.Clauses) == 0 {
		return append([]byte{byte(len(x.Code)<<2 | 2)}, x.Code...)
	}
	b := []byte{3, 0, 0, 0}
	b = binary.LittleEndian.AppendUint32(b, uint32(len(x.Code)))
	b = append(b, x.Code...)
	if len(x.Clauses) == 0 {
		return b
	}
	b[0] = 11
	for len(b)&3 != 0 {
		b = append(b, 0)
	}
	b = append(b, 1, byte(len(x.Clauses)), 0, 0)
	for _, c := range x.Clauses {
		for _, n := range []int{c.Kind, c.TryAt, c.TryLen, c.HandAt, c.HandLen, c.Extra} {
			b = binary.LittleEndian.AppendUint16(b, uint16(n))
		}
	}
	return b
}

// modelError is what the words of the chapter tell of the bytes b as a body at their beginning, whose place is a multiple of 4: the error alone.
func modelError(b []byte) api.Errno {
	if len(b) == 0 {
		return api.ErrShort
	}
	first, length := b[0], int(b[0]>>2)
	walked := 1
	switch {
	case first&3 == 2:
	case first != 3 && first != 11:
		return api.ErrForm
	default:
		if e := modelFixed(b, 1, 0, 0, 0); e != api.OK {
			return e
		}
		if len(b) < 8 {
			return api.ErrShort
		}
		length, walked = int(binary.LittleEndian.Uint32(b[4:])), 8
	}
	switch {
	case length == 0 || length > 65535:
		return api.ErrForm
	case len(b) < walked+length:
		return api.ErrShort
	case first == 3 && length < 64:
		return api.ErrForm
	case first != 11:
		return api.OK
	}
	return modelTable(b, walked+length)
}

// modelTable is modelError of what stands behind the code, from the place at on.
func modelTable(b []byte, at int) api.Errno {
	to := (at + 3) / 4 * 4
	if e := modelFixed(b, at, append(make([]byte, to-at), 1)...); e != api.OK {
		return e
	}
	if len(b) < to+2 {
		return api.ErrShort
	}
	n := int(b[to+1])
	if n < 1 || n > 6 {
		return api.ErrForm
	}
	if e := modelFixed(b, to+2, 0, 0); e != api.OK {
		return e
	}
	if len(b) < to+4+12*n {
		return api.ErrShort
	}
	return api.OK
}

// modelFixed tells of the bytes from at on that they must be want.
func modelFixed(b []byte, at int, want ...byte) api.Errno {
	for i, w := range want {
		if len(b) <= at+i {
			return api.ErrShort
		}
		if b[at+i] != w {
			return api.ErrForm
		}
	}
	return api.OK
}

func sameBody(x, y api.Body) bool {
	return bytes.Equal(x.Code, y.Code) && slices.Equal(x.Clauses, y.Clauses)
}

// short is b, or its beginning if it is long, for what a test tells.
func short(b []byte) []byte {
	return b[:min(len(b), 40)]
}

func wantWritten(t *testing.T, x api.Body, want []byte) {
	t.Helper()
	if b, e := Write(x); e != api.OK || !bytes.Equal(b, want) {
		t.Errorf("Write of %d bytes, %v: % x (%d) %v, want % x (%d)", len(x.Code), x.Clauses, short(b), len(b), e, short(want), len(want))
	}
}

func wantUnwritten(t *testing.T, x api.Body) {
	t.Helper()
	if b, e := Write(x); e != api.ErrArg || len(b) != 0 {
		t.Errorf("Write of %d bytes, %v: % x %v", len(x.Code), x.Clauses, short(b), e)
	}
}

func wantRead(t *testing.T, b []byte, at int, want api.Body, wantTo int) {
	t.Helper()
	if x, to, e := Read(b, at); e != api.OK || to != wantTo || !sameBody(x, want) {
		t.Errorf("Read(% x, %d): % x %v, %d, %v; want % x %v, %d", short(b), at, short(x.Code), x.Clauses, to, e, short(want.Code), want.Clauses, wantTo)
	}
}

func wantUnread(t *testing.T, b []byte, at int, want api.Errno) {
	t.Helper()
	if x, to, e := Read(b, at); e != want || to != 0 || !sameBody(x, api.Body{}) {
		t.Errorf("Read(% x, %d): % x %v, %d, %v; want %v", short(b), at, short(x.Code), x.Clauses, to, e, want)
	}
}

// wantBoth wants x written as the model tells, and its bytes read, alone and with others ahead and behind.
func wantBoth(t *testing.T, x api.Body) {
	t.Helper()
	b := modelBytes(x)
	wantWritten(t, x, b)
	wantRead(t, b, 0, x, len(b))
	wantRead(t, slices.Concat([]byte{6, 1, 6, 2}, b, []byte{255, 3}), 4, x, 4+len(b))
}

// P8.1: the chapter's example, and bodies byte by byte.
func TestWriteByteByByte(t *testing.T) {
	c := api.Raw{Kind: 2, TryAt: 0x0102, TryLen: 0xfffe, HandAt: 256, HandLen: 255, Extra: 0x8000}
	told := []byte{2, 0, 2, 1, 0xfe, 0xff, 0, 1, 255, 0, 0, 0x80}
	for _, x := range []struct {
		x    api.Body
		want []byte
	}{
		{api.Body{Code: []byte{1}}, []byte{6, 1}},
		{api.Body{Code: []byte{7, 8, 9}}, []byte{14, 7, 8, 9}},
		{api.Body{Code: []byte{0}}, []byte{6, 0}},
		{api.Body{Code: someCode(63)}, append([]byte{254}, someCode(63)...)},
		{api.Body{Code: someCode(64)}, append([]byte{3, 0, 0, 0, 64, 0, 0, 0}, someCode(64)...)},
		{api.Body{Code: someCode(0x1234)}, append([]byte{3, 0, 0, 0, 0x34, 0x12, 0, 0}, someCode(0x1234)...)},
		{api.Body{Code: []byte{9}, Clauses: []api.Raw{c}}, slices.Concat([]byte{11, 0, 0, 0, 1, 0, 0, 0, 9, 0, 0, 0, 1, 1, 0, 0}, told)},
		{api.Body{Code: []byte{9, 9}, Clauses: []api.Raw{c}}, slices.Concat([]byte{11, 0, 0, 0, 2, 0, 0, 0, 9, 9, 0, 0, 1, 1, 0, 0}, told)},
		{api.Body{Code: []byte{9, 9, 9}, Clauses: []api.Raw{c}}, slices.Concat([]byte{11, 0, 0, 0, 3, 0, 0, 0, 9, 9, 9, 0, 1, 1, 0, 0}, told)},
		{api.Body{Code: []byte{9, 9, 9, 9}, Clauses: []api.Raw{c, c}}, slices.Concat([]byte{11, 0, 0, 0, 4, 0, 0, 0, 9, 9, 9, 9, 1, 2, 0, 0}, told, told)},
		{api.Body{Code: []byte{9, 9, 9, 9, 9}, Clauses: []api.Raw{c}}, slices.Concat([]byte{11, 0, 0, 0, 5, 0, 0, 0, 9, 9, 9, 9, 9, 0, 0, 0, 1, 1, 0, 0}, told)},
	} {
		wantWritten(t, x.x, x.want)
		wantRead(t, x.want, 0, x.x, len(x.want))
	}
}

// P8.1: how long code may be, with and without clauses, and where it is small.
func TestWriteByLength(t *testing.T) {
	for n := range 3 {
		l := someClauses(n)
		for _, size := range []int{1, 2, 62, 63, 64, 65, 127, 128, 255, 256, 257, 65534, 65535} {
			wantBoth(t, api.Body{Code: someCode(size), Clauses: l})
		}
		wantUnwritten(t, api.Body{Clauses: l})
		wantUnwritten(t, api.Body{Code: []byte{}, Clauses: l})
		wantUnwritten(t, api.Body{Code: someCode(65536), Clauses: l})
		wantUnwritten(t, api.Body{Code: someCode(65537), Clauses: l})
		wantUnwritten(t, api.Body{Code: someCode(1<<17 + 1), Clauses: l})
	}
}

// P8.1: a body with less than 64 bytes and no clauses is told the small way, and no other is.
func TestWriteTheSmallWay(t *testing.T) {
	for size := 1; size < 130; size++ {
		for n := range 2 {
			b, e := Write(api.Body{Code: someCode(size), Clauses: someClauses(n)})
			if e != api.OK {
				t.Fatal(size, n, e)
			}
			want := byte(11)
			if n == 0 {
				want = 3
			}
			if n == 0 && size < 64 {
				want = byte(4*size + 2)
			}
			if b[0] != want {
				t.Errorf("%d bytes, %d clauses: %d, want %d", size, n, b[0], want)
			}
		}
	}
}

// P8.1: none, one and MaxClauses clauses are told, one more isn't; no clauses are none, nil or empty.
func TestWriteByClauses(t *testing.T) {
	for _, size := range []int{1, 2, 3, 4, 63, 64, 65, 66, 67, 65535} {
		for n := range api.MaxClauses + 1 {
			wantBoth(t, api.Body{Code: someCode(size), Clauses: someClauses(n)})
		}
		wantBoth(t, api.Body{Code: someCode(size), Clauses: []api.Raw{}})
		wantUnwritten(t, api.Body{Code: someCode(size), Clauses: someClauses(api.MaxClauses + 1)})
		wantUnwritten(t, api.Body{Code: someCode(size), Clauses: make([]api.Raw, 256+1)})
	}
}

// P8.1: each number of a clause is from 0 to 65535, in each of the clauses.
func TestWriteByNumbers(t *testing.T) {
	for k := range api.MaxClauses {
		for i := range 6 {
			l := someClauses(api.MaxClauses)
			for _, x := range []int{0, 1, 255, 256, 65534, 65535} {
				l[k] = withNumber(i, x)
				wantBoth(t, api.Body{Code: []byte{1, 2}, Clauses: l})
				wantBoth(t, api.Body{Code: []byte{1, 2}, Clauses: l[k : k+1]})
			}
			for _, x := range []int{-1, 65536, -2, 65537, -65536, 1 << 32, math.MinInt, math.MaxInt} {
				l[k] = withNumber(i, x)
				wantUnwritten(t, api.Body{Code: []byte{1, 2}, Clauses: l})
				wantUnwritten(t, api.Body{Code: []byte{1, 2}, Clauses: l[k : k+1]})
			}
		}
	}
}

// P8.1: several wrongs are the same error as one.
func TestWriteManyWrongs(t *testing.T) {
	l := someClauses(api.MaxClauses + 1)
	l[0].Kind = -1
	wantUnwritten(t, api.Body{Clauses: l})
	wantUnwritten(t, api.Body{Code: someCode(65536), Clauses: l})
}

// P8.2: a place is from 0 to the length; at the end no byte is left.
func TestReadByPlace(t *testing.T) {
	for _, b := range [][]byte{nil, {}, {6, 1}, {6, 1, 6, 2}, {1}, make([]byte, 100)} {
		for _, at := range []int{-1, -2, -4, math.MinInt, len(b) + 1, len(b) + 4, math.MaxInt, math.MaxInt - 3} {
			wantUnread(t, b, at, api.ErrRange)
		}
		wantUnread(t, b, len(b), api.ErrShort)
	}
	wantUnread(t, nil, 0, api.ErrShort)
	// Spare room is no byte of b.
	roomy := []byte{6, 1, 6, 2}[:2]
	wantUnread(t, roomy, 2, api.ErrShort)
	wantUnread(t, roomy, 3, api.ErrRange)
	wantUnread(t, roomy[:1], 0, api.ErrShort)
}

// P8.2: each first byte, with nothing and with much behind it, at a multiple of 4 and elsewhere.
func TestReadByFirstByte(t *testing.T) {
	zeros := make([]byte, 100)
	for first := range 256 {
		for at := range 8 {
			b := slices.Concat(zeros[:at], []byte{byte(first)})
			long := slices.Concat(b, zeros)
			switch {
			case first == 2:
				wantUnread(t, b, at, api.ErrForm)
				wantUnread(t, long, at, api.ErrForm)
			case first%4 == 2:
				wantUnread(t, b, at, api.ErrShort)
				wantRead(t, long, at, api.Body{Code: zeros[:first/4]}, at+1+first/4)
			case (first == 3 || first == 11) && at%4 == 0:
				wantUnread(t, b, at, api.ErrShort)
				wantUnread(t, long, at, api.ErrForm)
			default:
				wantUnread(t, b, at, api.ErrForm)
				wantUnread(t, long, at, api.ErrForm)
			}
		}
	}
}

// P8.2: a small body may stand anywhere, another one at multiples of 4 alone; what fills up is counted from its own beginning.
func TestReadAtAnyPlace(t *testing.T) {
	for at := range 40 {
		ahead := someCode(at)
		for _, x := range []api.Body{{Code: someCode(1)}, {Code: someCode(62)}, {Code: someCode(63)}} {
			b := modelBytes(x)
			wantRead(t, slices.Concat(ahead, b), at, x, at+len(b))
			wantRead(t, slices.Concat(ahead, b, []byte{1, 2, 3}), at, x, at+len(b))
		}
		for _, x := range []api.Body{{Code: someCode(64)}, {Code: someCode(1), Clauses: someClauses(1)}, {Code: someCode(70), Clauses: someClauses(2)}, {Code: someCode(8), Clauses: someClauses(6)}} {
			b := modelBytes(x)
			all := slices.Concat(ahead, b, []byte{1, 2, 3})
			if at%4 != 0 {
				wantUnread(t, all, at, api.ErrForm)
				continue
			}
			wantRead(t, all, at, x, at+len(b))
		}
	}
}

// P8.2: bodies one behind the other, each read from where the one ahead ended.
func TestReadOneBehindTheOther(t *testing.T) {
	l := []api.Body{{Code: []byte{5}}, {Code: someCode(6)}, {Code: someCode(63)}, {Code: someCode(64)}, {Code: someCode(11), Clauses: someClauses(3)}, {Code: []byte{0, 0}}, {Code: someCode(300), Clauses: someClauses(6)}, {Code: []byte{1}}}
	var b []byte
	for _, x := range l {
		if len(x.Code) > 63 || len(x.Clauses) > 0 {
			b = append(b, make([]byte, -len(b)&3)...)
		}
		b = append(b, modelBytes(x)...)
	}
	at := 0
	for _, x := range l {
		if len(x.Code) > 63 || len(x.Clauses) > 0 {
			at = (at + 3) / 4 * 4
		}
		got, to, e := Read(b, at)
		if e != api.OK || !sameBody(got, x) {
			t.Fatal(at, got, to, e)
		}
		at = to
	}
	if at != len(b) {
		t.Error(at, len(b))
	}
}

// samples are bodies of all kinds whose bytes are few.
func samples() []api.Body {
	l := []api.Body{{Code: []byte{1}}, {Code: []byte{0}}, {Code: someCode(5)}, {Code: someCode(63)}, {Code: someCode(64)}, {Code: someCode(65)}}
	for size := 1; size < 9; size++ {
		l = append(l, api.Body{Code: someCode(size), Clauses: someClauses(1)})
	}
	for n := 1; n <= api.MaxClauses; n++ {
		l = append(l, api.Body{Code: someCode(66), Clauses: someClauses(n)})
	}
	return l
}

// P8.2: a body that is cut off at any byte is short, wherever it stands.
func TestReadCutOff(t *testing.T) {
	for _, x := range samples() {
		b := modelBytes(x)
		for n := range b {
			wantUnread(t, b[:n], 0, api.ErrShort)
			wantUnread(t, slices.Concat(make([]byte, 8), b[:n]), 8, api.ErrShort)
		}
	}
	long := modelBytes(api.Body{Code: someCode(65535), Clauses: someClauses(1)})
	for _, n := range []int{8, 9, 65535, 65542, 65543, 65544, len(long) - 1} {
		wantUnread(t, long[:n], 0, api.ErrShort)
	}
	wantRead(t, long, 0, api.Body{Code: someCode(65535), Clauses: someClauses(1)}, len(long))
}

// P8.2: each byte that must be 0 or 1, and isn't, is told whether or not any byte stands behind it.
func TestReadFixedBytes(t *testing.T) {
	b := modelBytes(api.Body{Code: []byte{9}, Clauses: someClauses(2)})
	for _, at := range []int{1, 2, 3, 9, 10, 11, 12, 14, 15} {
		for x := range 256 {
			if byte(x) == b[at] {
				continue
			}
			wrong := slices.Clone(b)
			wrong[at] = byte(x)
			wantUnread(t, wrong, 0, api.ErrForm)
			wantUnread(t, wrong[:at+1], 0, api.ErrForm)
			wantUnread(t, wrong[:at], 0, api.ErrShort)
		}
	}
	plain := modelBytes(api.Body{Code: someCode(64)})
	for at := 1; at < 4; at++ {
		plain[at] = 1
		wantUnread(t, plain, 0, api.ErrForm)
		wantUnread(t, plain[:at+1], 0, api.ErrForm)
		plain[at] = 0
	}
}

// P8.2: nothing fills up where the code ends at a multiple of 4; up to three bytes do elsewhere.
func TestReadWhatFillsUp(t *testing.T) {
	for size := 1; size < 80; size++ {
		x := api.Body{Code: someCode(size), Clauses: someClauses(1)}
		b := modelBytes(x)
		for at := 8 + size; at < len(b)-16; at++ {
			wrong := slices.Clone(b)
			wrong[at] = 1
			wantUnread(t, wrong, 0, api.ErrForm)
		}
		if fill := len(b) - 16 - 8 - size; fill != -size&3 {
			t.Error(size, fill)
		}
		wantBoth(t, x)
		// Four bytes more than are to fill up: the first of them stands where 1 must.
		wantUnread(t, slices.Concat(b[:len(b)-16], make([]byte, 4), b[len(b)-16:]), 0, api.ErrForm)
	}
}

// P8.2: a length of 0, or of more than 65535, is told once its four bytes are read, whatever stands behind them.
func TestReadLengths(t *testing.T) {
	for _, first := range []byte{3, 11} {
		for _, n := range []uint32{0, 65536, 65537, 65536 + 64, 1 << 24, 1<<24 + 64, 1 << 31, 1<<31 + 64, math.MaxUint32} {
			b := binary.LittleEndian.AppendUint32([]byte{first, 0, 0, 0}, n)
			wantUnread(t, b, 0, api.ErrForm)
			wantUnread(t, append(b, make([]byte, 70000)...), 0, api.ErrForm)
			for cut := 4; cut < 8; cut++ {
				wantUnread(t, b[:cut], 0, api.ErrShort)
			}
		}
	}
	wantUnread(t, []byte{2}, 0, api.ErrForm)
	wantUnread(t, []byte{2, 1, 1}, 0, api.ErrForm)
	wantUnread(t, []byte{3, 0, 0, 0, 255, 255, 0, 0}, 0, api.ErrShort)
}

// P8.2: of each number of clauses whether it is one, told as soon as it is read.
func TestReadCounts(t *testing.T) {
	clauses := someClauses(api.MaxClauses)
	for n := range 256 {
		b := []byte{11, 0, 0, 0, 1, 0, 0, 0, 9, 0, 0, 0, 1, byte(n)}
		long := slices.Concat(b, []byte{0, 0}, make([]byte, 12*256))
		if n < 1 || n > 6 {
			wantUnread(t, b, 0, api.ErrForm)
			wantUnread(t, long, 0, api.ErrForm)
			continue
		}
		wantUnread(t, b, 0, api.ErrShort)
		wantRead(t, long, 0, api.Body{Code: []byte{9}, Clauses: make([]api.Raw, n)}, 16+12*n)
		wantBoth(t, api.Body{Code: []byte{9}, Clauses: clauses[:n]})
	}
}

// P8.2: what could be told the small way, but isn't, is told behind the code: ahead of that a byte may be missing, and behind it none is looked at.
func TestReadNotTheSmallWay(t *testing.T) {
	for size := 1; size < 64; size++ {
		b := slices.Concat([]byte{3, 0, 0, 0, byte(size), 0, 0, 0}, someCode(size))
		for n := range b {
			wantUnread(t, b[:n], 0, api.ErrShort)
		}
		wantUnread(t, b, 0, api.ErrForm)
		wantUnread(t, append(b, 0, 0, 0, 0), 0, api.ErrForm)
		// With clauses told, it couldn't be.
		b[0] = 11
		wantUnread(t, b, 0, api.ErrShort)
	}
	wantRead(t, slices.Concat([]byte{3, 0, 0, 0, 64, 0, 0, 0}, someCode(64)), 0, api.Body{Code: someCode(64)}, 72)
}

// P8.2: of two wrongs the one whose byte comes first is told.
func TestReadOrder(t *testing.T) {
	for _, c := range []struct {
		b    []byte
		at   int
		want api.Errno
	}{
		{[]byte{1}, 2, api.ErrRange},
		{[]byte{1}, -1, api.ErrRange},
		{[]byte{0, 3}, 1, api.ErrForm},
		{[]byte{0, 3}, 2, api.ErrShort},
		{[]byte{3}, 0, api.ErrShort},
		{[]byte{3, 1}, 0, api.ErrForm},
		{[]byte{3, 0, 0}, 0, api.ErrShort},
		{[]byte{3, 0, 0, 1}, 0, api.ErrForm},
		{[]byte{3, 0, 0, 0, 0, 0, 0}, 0, api.ErrShort},
		{[]byte{3, 0, 0, 0, 0, 0, 1}, 0, api.ErrShort},
		{[]byte{3, 0, 0, 0, 0, 0, 0, 0}, 0, api.ErrForm},
		{[]byte{11, 0, 0, 0, 2, 0, 0, 0, 9}, 0, api.ErrShort},
		{[]byte{11, 0, 0, 0, 2, 0, 0, 0, 9, 9}, 0, api.ErrShort},
		{[]byte{11, 0, 0, 0, 2, 0, 0, 0, 9, 9, 1}, 0, api.ErrForm},
		{[]byte{11, 0, 0, 0, 2, 0, 0, 0, 9, 9, 0, 0}, 0, api.ErrShort},
		{[]byte{11, 0, 0, 0, 2, 0, 0, 0, 9, 9, 0, 0, 0}, 0, api.ErrForm},
		{[]byte{11, 0, 0, 0, 2, 0, 0, 0, 9, 9, 0, 0, 2}, 0, api.ErrForm},
		{[]byte{11, 0, 0, 0, 2, 0, 0, 0, 9, 9, 0, 0, 1, 0}, 0, api.ErrForm},
		{[]byte{11, 0, 0, 0, 2, 0, 0, 0, 9, 9, 0, 0, 1, 7}, 0, api.ErrForm},
		{[]byte{11, 0, 0, 0, 2, 0, 0, 0, 9, 9, 0, 0, 1, 1}, 0, api.ErrShort},
		{[]byte{11, 0, 0, 0, 2, 0, 0, 0, 9, 9, 0, 0, 1, 1, 1}, 0, api.ErrForm},
		{[]byte{11, 0, 0, 0, 2, 0, 0, 0, 9, 9, 0, 0, 1, 1, 0, 1}, 0, api.ErrForm},
		{[]byte{11, 0, 0, 0, 2, 0, 0, 0, 9, 9, 0, 0, 1, 1, 0, 0, 255}, 0, api.ErrShort},
	} {
		wantUnread(t, c.b, c.at, c.want)
	}
}

// P8.2, P8.4: each byte of each sample changed to each other one, with all behind it and with none: the error is the model's; what is read is written to the very bytes that were read.
func TestReadEachByteChanged(t *testing.T) {
	for _, x := range samples() {
		b := modelBytes(x)
		for at := range b {
			for y := range 256 {
				wrong := slices.Clone(b)
				wrong[at] = byte(y)
				wantAsModel(t, wrong)
				wantAsModel(t, wrong[:at+1])
			}
		}
	}
}

func wantAsModel(t *testing.T, b []byte) {
	t.Helper()
	if e := modelError(b); e != api.OK {
		wantUnread(t, b, 0, e)
		return
	}
	x, to, e := Read(b, 0)
	if e != api.OK {
		t.Errorf("Read(% x): %v", short(b), e)
		return
	}
	wantWritten(t, x, b[:to])
}

// P8.4: what is written is read, for all lengths up to some, and all numbers of clauses.
func TestThereAndBack(t *testing.T) {
	for size := 1; size < 200; size++ {
		for n := range api.MaxClauses + 1 {
			wantBoth(t, api.Body{Code: someCode(size), Clauses: someClauses(n)})
		}
	}
	zeros := api.Body{Code: make([]byte, 100), Clauses: make([]api.Raw, 6)}
	wantBoth(t, zeros)
	full := withNumber(0, 65535)
	full.TryAt, full.TryLen, full.HandAt, full.HandLen, full.Extra = 65535, 65535, 65535, 65535, 65535
	wantBoth(t, api.Body{Code: bytes.Repeat([]byte{255}, 65535), Clauses: slices.Repeat([]api.Raw{full}, 6)})
}

// somePlaces are those of five instructions, of 2, 3, 1, 9 and 1 bytes, and the end's.
func somePlaces() []int {
	return []int{0, 2, 5, 6, 15, 16}
}

func wantResolved(t *testing.T, places []int, r api.Raw, want api.Clause) {
	t.Helper()
	if c, e := Resolve(places, r); e != api.OK || c != want {
		t.Errorf("Resolve(%v, %+v): %+v %v, want %+v", places, r, c, e, want)
	}
}

func wantUnresolved(t *testing.T, places []int, r api.Raw) {
	t.Helper()
	if c, e := Resolve(places, r); e != api.ErrRegion || c != (api.Clause{}) {
		t.Errorf("Resolve(%v, %+v): %+v %v", places, r, c, e)
	}
}

func wantRaw(t *testing.T, places []int, c api.Clause, want api.Raw) {
	t.Helper()
	if r, e := Raw(places, c); e != api.OK || r != want {
		t.Errorf("Raw(%v, %+v): %+v %v, want %+v", places, c, r, e, want)
	}
}

func wantNoRaw(t *testing.T, places []int, c api.Clause) {
	t.Helper()
	if r, e := Raw(places, c); e != api.ErrRegion || r != (api.Raw{}) {
		t.Errorf("Raw(%v, %+v): %+v %v", places, c, r, e)
	}
}

// P8.3: clauses of each kind, number by number, there and back.
func TestClausesByKind(t *testing.T) {
	for kind := 1; kind <= 4; kind++ {
		r := api.Raw{Kind: kind, TryAt: 2, TryLen: 4, HandAt: 6, HandLen: 10}
		c := api.Clause{Kind: kind, TryFrom: 1, TryTo: 3, HandFrom: 3, HandTo: 5, Filter: -1}
		if kind == api.CFilter {
			r.Extra, c.Filter = 5, 2
		}
		wantResolved(t, somePlaces(), r, c)
		wantRaw(t, somePlaces(), c, r)
	}
}

// kindless are numbers that are no kind of clauses, some of which are one if they are cut off.
var kindless = []int{0, 5, -1, 6, -2, 256 + 1, 65536 + 2, 1<<32 + 3, math.MinInt, math.MinInt + 1, math.MaxInt}

// P8.3: what is none of the kinds 1 to 4 is refused, of all else right.
func TestClausesOfNoKind(t *testing.T) {
	for _, kind := range kindless {
		wantUnresolved(t, somePlaces(), api.Raw{Kind: kind, TryAt: 2, TryLen: 4, HandAt: 6, HandLen: 10, Extra: 5})
		wantNoRaw(t, somePlaces(), api.Clause{Kind: kind, TryFrom: 1, TryTo: 3, HandFrom: 3, HandTo: 5, Filter: 2})
		wantNoRaw(t, somePlaces(), api.Clause{Kind: kind, TryFrom: 1, TryTo: 3, HandFrom: 3, HandTo: 5, Filter: -1})
	}
}

// P8.3: of each beginning and each length of each part whether it is resolved: both ends are places, and the one is behind the other.
func TestResolveEachPart(t *testing.T) {
	places := somePlaces()
	for kind := 1; kind <= 4; kind++ {
		for at := -3; at < 20; at++ {
			for length := -20; length < 22; length++ {
				from, to := slices.Index(places, at), slices.Index(places, at+length)
				tries := api.Raw{Kind: kind, TryAt: at, TryLen: length, HandAt: 15, HandLen: 1}
				hands := api.Raw{Kind: kind, TryAt: 15, TryLen: 1, HandAt: at, HandLen: length}
				if from < 0 || to < 0 || length <= 0 {
					wantUnresolved(t, places, tries)
					wantUnresolved(t, places, hands)
					continue
				}
				filter := -1
				if kind == api.CFilter {
					filter = 0
				}
				wantResolved(t, places, tries, api.Clause{Kind: kind, TryFrom: from, TryTo: to, HandFrom: 4, HandTo: 5, Filter: filter})
				wantResolved(t, places, hands, api.Clause{Kind: kind, TryFrom: 4, TryTo: 5, HandFrom: from, HandTo: to, Filter: filter})
			}
		}
	}
}

// P8.3: the end may be the end of a part, but not its beginning; numbers so great that they wrap round are no places.
func TestResolveAtTheEnds(t *testing.T) {
	wantResolved(t, somePlaces(), api.Raw{Kind: 3, TryAt: 0, TryLen: 16, HandAt: 0, HandLen: 16}, api.Clause{Kind: 3, TryTo: 5, HandTo: 5, Filter: -1})
	for _, p := range [][2]int{{16, 0}, {16, 1}, {16, -1}, {16, -16}, {15, 2}, {0, 17}, {0, 0}, {5, 0}, {5, -3}, {15, -15}, {2, math.MaxInt}, {2, math.MinInt}, {0, math.MaxInt}, {0, math.MinInt}, {math.MaxInt, 1}, {math.MaxInt, math.MinInt}, {math.MinInt, math.MinInt}, {math.MaxInt, math.MaxInt}, {math.MinInt, math.MaxInt}, {math.MaxInt, 3 + math.MinInt}} {
		wantUnresolved(t, somePlaces(), api.Raw{Kind: 3, TryAt: p[0], TryLen: p[1], HandAt: 5, HandLen: 1})
		wantUnresolved(t, somePlaces(), api.Raw{Kind: 3, TryAt: 5, TryLen: 1, HandAt: p[0], HandLen: p[1]})
	}
}

// P8.3: Extra of kind 2 is an instruction's place, not the end's; of other kinds it may be anything, and Filter is -1.
func TestResolveExtra(t *testing.T) {
	places := somePlaces()
	for _, extra := range []int{0, 1, 2, 3, 4, 5, 6, 7, 14, 15, 16, 17, -1, -2, 65535, 65536, math.MinInt, math.MaxInt} {
		for kind := 1; kind <= 4; kind++ {
			r := api.Raw{Kind: kind, TryAt: 0, TryLen: 2, HandAt: 6, HandLen: 9, Extra: extra}
			want := api.Clause{Kind: kind, TryFrom: 0, TryTo: 1, HandFrom: 3, HandTo: 4, Filter: -1}
			if kind != api.CFilter {
				wantResolved(t, places, r, want)
				continue
			}
			want.Filter = slices.Index(places[:5], extra)
			if want.Filter < 0 {
				wantUnresolved(t, places, r)
				continue
			}
			wantResolved(t, places, r, want)
		}
	}
}

// P8.3: of each beginning and each end of each part whether there is a way back.
func TestRawEachPart(t *testing.T) {
	places := somePlaces()
	for kind := 1; kind <= 4; kind++ {
		for from := -3; from < 9; from++ {
			for to := -3; to < 9; to++ {
				tries := api.Clause{Kind: kind, TryFrom: from, TryTo: to, HandFrom: 4, HandTo: 5, Filter: -1}
				hands := api.Clause{Kind: kind, TryFrom: 4, TryTo: 5, HandFrom: from, HandTo: to, Filter: -1}
				if kind == api.CFilter {
					tries.Filter, hands.Filter = 0, 0
				}
				if from < 0 || to > 5 || to <= from {
					wantNoRaw(t, places, tries)
					wantNoRaw(t, places, hands)
					continue
				}
				length := places[to] - places[from]
				wantRaw(t, places, tries, api.Raw{Kind: kind, TryAt: places[from], TryLen: length, HandAt: 15, HandLen: 1})
				wantRaw(t, places, hands, api.Raw{Kind: kind, TryAt: 15, TryLen: 1, HandAt: places[from], HandLen: length})
			}
		}
	}
	for _, p := range [][2]int{{math.MinInt, 1}, {0, math.MaxInt}, {math.MaxInt, math.MinInt}, {math.MinInt, math.MaxInt}, {math.MaxInt, math.MaxInt}} {
		wantNoRaw(t, places, api.Clause{Kind: 1, TryFrom: p[0], TryTo: p[1], HandFrom: 1, HandTo: 2, Filter: -1})
		wantNoRaw(t, places, api.Clause{Kind: 1, TryFrom: 1, TryTo: 2, HandFrom: p[0], HandTo: p[1], Filter: -1})
	}
}

// P8.3: Filter of kind 2 is an instruction's number, not the end's; of other kinds it isn't looked at, and Extra is 0.
func TestRawFilter(t *testing.T) {
	places := somePlaces()
	for _, filter := range []int{-1, 0, 1, 2, 3, 4, 5, 6, -2, 15, 16, math.MinInt, math.MaxInt} {
		for kind := 1; kind <= 4; kind++ {
			c := api.Clause{Kind: kind, TryFrom: 0, TryTo: 1, HandFrom: 3, HandTo: 4, Filter: filter}
			want := api.Raw{Kind: kind, TryAt: 0, TryLen: 2, HandAt: 6, HandLen: 9}
			if kind == api.CFilter && (filter < 0 || filter > 4) {
				wantNoRaw(t, places, c)
				continue
			}
			if kind == api.CFilter {
				want.Extra = places[filter]
			}
			wantRaw(t, places, c, want)
		}
	}
}

// P8.3, P8.4: what is caught has no part in it: T is zero when resolved, and makes nothing else when it is not.
func TestClausesWithoutT(t *testing.T) {
	for kind := 1; kind <= 4; kind++ {
		c := api.Clause{Kind: kind, TryFrom: 1, TryTo: 2, HandFrom: 2, HandTo: 4, Filter: -1}
		if kind == api.CFilter {
			c.Filter = 0
		}
		typed := c
		typed.T = api.Type{Kind: api.TClass, Index: 3, Dims: 1, Ref: true}
		plain, e := Raw(somePlaces(), c)
		if e != api.OK {
			t.Fatal(kind, e)
		}
		wantRaw(t, somePlaces(), typed, plain)
		wantResolved(t, somePlaces(), plain, c)
	}
}

// P8.3: without any place, and with the end's alone, nothing is a clause.
func TestClausesWithoutPlaces(t *testing.T) {
	for _, places := range [][]int{nil, {}, {0}, {5}} {
		for kind := range 6 {
			for _, x := range []int{-1, 0, 1, 5} {
				for _, y := range []int{-1, 0, 1, 5} {
					wantUnresolved(t, places, api.Raw{Kind: kind, TryAt: x, TryLen: y, HandAt: x, HandLen: y})
					wantNoRaw(t, places, api.Clause{Kind: kind, TryFrom: x, TryTo: y, HandFrom: x, HandTo: y, Filter: -1})
					wantNoRaw(t, places, api.Clause{Kind: kind, TryFrom: x, TryTo: y, HandFrom: x, HandTo: y})
				}
			}
		}
	}
	one := []int{0, 1}
	wantResolved(t, one, api.Raw{Kind: 2, TryLen: 1, HandLen: 1}, api.Clause{Kind: 2, TryTo: 1, HandTo: 1})
	wantRaw(t, one, api.Clause{Kind: 2, TryTo: 1, HandTo: 1}, api.Raw{Kind: 2, TryLen: 1, HandLen: 1})
}

// R1: places that are no instructions' make no panic.
func TestClausesOfWildPlaces(t *testing.T) {
	for _, places := range [][]int{{3, 2, 1}, {0, 0, 0}, {-5, -1, 4}, {math.MinInt, 0, math.MaxInt}, {math.MaxInt, math.MinInt}} {
		for _, x := range append(places, -1, 1, 2) {
			for _, y := range append(places, -1, 1, 2) {
				for kind := range 6 {
					Resolve(places, api.Raw{Kind: kind, TryAt: x, TryLen: y, HandAt: x, HandLen: y, Extra: y})
					Raw(places, api.Clause{Kind: kind, TryFrom: x, TryTo: y, HandFrom: x, HandTo: y, Filter: y})
				}
			}
		}
	}
}

// P8.4: for all clauses of few instructions Resolve of Raw is the clause, and Raw of Resolve the raw one.
func TestClausesThereAndBack(t *testing.T) {
	places, e := code.Places([]api.Instr{{Op: api.OLdc8, Arg: 1}, {Op: api.OOut}, {Op: api.OLeave, Arg: 3}, {Op: api.OPop}, {Op: api.OBr, Arg: 0}})
	if e != api.OK {
		t.Fatal(e)
	}
	n, met := len(places), 0
	for x := range 4 * n * n * n * n * n {
		c := api.Clause{Kind: 1 + x%4, TryFrom: x / 4 % n, TryTo: x / 4 / n % n, HandFrom: x / 4 / n / n % n, HandTo: x / 4 / n / n / n % n, Filter: x / 4 / n / n / n / n}
		if c.Kind != api.CFilter {
			c.Filter = -1
		}
		r, e := Raw(places, c)
		if e != api.OK {
			continue
		}
		met++
		wantResolved(t, places, r, c)
		wantRaw(t, places, c, r)
	}
	// Of 5 instructions 15 parts each, of kind 2 with 5 filters, of the others each met once a number.
	if want := 15 * 15 * (5 + 3*n); met != want {
		t.Error(met, want)
	}
}

// P8.3, P8.4: whole bodies: code and clauses to bytes, and back to both.
func TestWholeBodies(t *testing.T) {
	l := []api.Instr{{Op: api.OLeave, Arg: 4}, {Op: api.OLdc8, Arg: 1}, {Op: api.OOut}, {Op: api.OEndfinally}, {Op: api.ORet}}
	c := api.Clause{Kind: api.CFinally, TryTo: 1, HandFrom: 1, HandTo: 4, Filter: -1}
	told, e := code.Encode(l)
	if e != api.OK {
		t.Fatal(e)
	}
	places, _ := code.Places(l)
	r, e := Raw(places, c)
	if e != api.OK {
		t.Fatal(e)
	}
	b, e := Write(api.Body{Code: told, Clauses: []api.Raw{r}})
	if e != api.OK {
		t.Fatal(e)
	}
	x, to, e := Read(b, 0)
	if e != api.OK || to != len(b) {
		t.Fatal(to, e)
	}
	again, places, _, e := code.Decode(x.Code)
	if e != api.OK || !slices.Equal(again, l) {
		t.Fatal(again, e)
	}
	wantResolved(t, places, x.Clauses[0], c)
}

// spoil writes over a list and its spare room.
func spoil[T any](l []T, x T) {
	l = l[:cap(l)]
	for i := range l {
		l[i] = x
	}
}

// roomy is l with spare room behind it that is all x.
func roomy[T any](l []T, x T) []T {
	out := make([]T, len(l)+20)
	spoil(out, x)
	copy(out, l)
	return out[:len(l)]
}

// R4: Write leaves what it is handed, spare room included, and answers new memory each time.
func TestWriteFreshMemory(t *testing.T) {
	for _, x := range append(samples(), api.Body{}, api.Body{Code: someCode(65536)}, api.Body{Code: someCode(1), Clauses: someClauses(7)}) {
		mark := api.Raw{Kind: 99}
		in := api.Body{Code: roomy(x.Code, 0xee), Clauses: roomy(x.Clauses, mark)}
		first, e := Write(in)
		second, _ := Write(in)
		if !slices.Equal(in.Code[:cap(in.Code)], roomy(x.Code, 0xee)[:cap(in.Code)]) || !slices.Equal(in.Clauses[:cap(in.Clauses)], roomy(x.Clauses, mark)[:cap(in.Clauses)]) {
			t.Error("changed", len(x.Code), x.Clauses)
		}
		if e != api.OK {
			continue
		}
		spoil(in.Code, 0xaa)
		spoil(in.Clauses, api.Raw{})
		if !slices.Equal(first, modelBytes(x)) {
			t.Error("kept", len(x.Code), x.Clauses)
		}
		spoil(first, 0xaa)
		if !slices.Equal(second, modelBytes(x)) {
			t.Error("shared", len(x.Code), x.Clauses)
		}
	}
}

// R4: Read leaves what it is handed, spare room included, and answers new memory each time.
func TestReadFreshMemory(t *testing.T) {
	for _, x := range samples() {
		b := roomy(modelBytes(x), 0xee)
		first, _, e := Read(b, 0)
		if e != api.OK {
			t.Fatal(e)
		}
		second, _, _ := Read(b, 0)
		Read(b, len(b))
		Read(b[:len(b)-1], 0)
		if !slices.Equal(b[:cap(b)], roomy(modelBytes(x), 0xee)[:cap(b)]) {
			t.Error("changed", len(x.Code), x.Clauses)
		}
		spoil(b, 0xaa)
		if !sameBody(first, x) {
			t.Error("kept", len(x.Code), x.Clauses)
		}
		spoil(first.Code, 0xaa)
		spoil(first.Clauses, api.Raw{Kind: 77})
		if !sameBody(second, x) {
			t.Error("shared", len(x.Code), x.Clauses)
		}
	}
}

// R4: Resolve and Raw leave the places, spare room included.
func TestPlacesStay(t *testing.T) {
	places := roomy(somePlaces(), -7)
	Resolve(places, api.Raw{Kind: 2, TryAt: 0, TryLen: 2, HandAt: 6, HandLen: 9, Extra: 2})
	Resolve(places, api.Raw{Kind: 2, TryAt: 0, TryLen: 2, HandAt: 6, HandLen: 9, Extra: 16})
	Resolve(places, api.Raw{Kind: 1, TryAt: -7, TryLen: 2, HandAt: 6, HandLen: 9})
	Raw(places, api.Clause{Kind: 2, TryTo: 1, HandFrom: 1, HandTo: 5, Filter: 1})
	Raw(places, api.Clause{Kind: 2, TryTo: 6, HandFrom: 1, HandTo: 7, Filter: 6})
	if !slices.Equal(places[:cap(places)], roomy(somePlaces(), -7)[:cap(places)]) {
		t.Error(places[:cap(places)])
	}
}
