package octet

import (
	"math"
	"slices"
	"testing"

	"cattlegrid/api"
)

// roomy is b with 16 bytes of spare room behind it, each of them 0xEE.
func roomy(b ...byte) []byte {
	out := make([]byte, len(b)+16)
	for i := range out {
		out[i] = 0xEE
	}
	copy(out, b)
	return out[:len(b)]
}

func roomUntouched(b []byte) bool {
	for _, x := range b[len(b):cap(b)] {
		if x != 0xEE {
			return false
		}
	}
	return true
}

// spoil writes over b and its spare room.
func spoil(b []byte) {
	b = b[:cap(b)]
	for i := range b {
		b[i] = 0xAA
	}
}

func wantPlace(t *testing.T, r *Reader, at, left int) {
	t.Helper()
	if r.At() != at || r.Left() != left {
		t.Errorf("at %d left %d, want %d and %d", r.At(), r.Left(), at, left)
	}
}

// P1.1: a reader begins at the first byte, and goes on by what was read.
func TestNewBeginsAtTheFirstByte(t *testing.T) {
	r := New([]byte{1, 2, 3})
	wantPlace(t, r, 0, 3)
	if x, e := r.Num(1); x != 1 || e != api.OK {
		t.Error(x, e)
	}
	wantPlace(t, r, 1, 2)
	for _, b := range [][]byte{nil, {}} {
		r := New(b)
		if r == nil {
			t.Fatal("no reader of no bytes")
		}
		wantPlace(t, r, 0, 0)
	}
}

// P1.1: the reader's bytes are a copy.
func TestNewReadsACopy(t *testing.T) {
	b := roomy(1, 2, 3, 4)
	r := New(b)
	spoil(b)
	if x, e := r.Num(4); x != 0x04030201 || e != api.OK {
		t.Errorf("%x %v", x, e)
	}
}

// P1.1: readers of the same bytes don't move each other.
func TestReadersAreApart(t *testing.T) {
	b := []byte{1, 2}
	r, s := New(b), New(b)
	r.Skip(2)
	wantPlace(t, r, 2, 0)
	wantPlace(t, s, 0, 2)
}

// P1.1: an error leaves the reader as it is, at the beginning and further on.
func TestErrorsLeaveTheReader(t *testing.T) {
	for _, c := range []struct {
		name string
		b    []byte
		call func(*Reader) api.Errno
		want api.Errno
	}{
		{"Num short", []byte{1}, func(r *Reader) api.Errno { _, e := r.Num(2); return e }, api.ErrShort},
		{"Num width", []byte{1}, func(r *Reader) api.Errno { _, e := r.Num(3); return e }, api.ErrArg},
		{"Packed short", []byte{0xC0, 1, 2}, func(r *Reader) api.Errno { _, e := r.Packed(); return e }, api.ErrShort},
		{"Packed form", []byte{0xE0, 1, 2, 3}, func(r *Reader) api.Errno { _, e := r.Packed(); return e }, api.ErrForm},
		{"Packed long", []byte{0x80, 1}, func(r *Reader) api.Errno { _, e := r.Packed(); return e }, api.ErrForm},
		{"Take below", []byte{1}, func(r *Reader) api.Errno { _, e := r.Take(-1); return e }, api.ErrRange},
		{"Take short", []byte{1}, func(r *Reader) api.Errno { _, e := r.Take(2); return e }, api.ErrShort},
		{"Skip below", []byte{1}, func(r *Reader) api.Errno { return r.Skip(-1) }, api.ErrRange},
		{"Skip short", []byte{1}, func(r *Reader) api.Errno { return r.Skip(2) }, api.ErrShort},
		{"Done", []byte{1}, func(r *Reader) api.Errno { return r.Done() }, api.ErrForm},
	} {
		r := New(append([]byte{0x55}, c.b...))
		r.Skip(1)
		for range 2 {
			if e := c.call(r); e != c.want {
				t.Error(c.name, e)
			}
			wantPlace(t, r, 1, len(c.b))
		}
		if b, e := r.Take(len(c.b)); e != api.OK || !slices.Equal(b, c.b) {
			t.Error(c.name, b, e)
		}
	}
}

// P1.2: the lowest byte is the first one.
func TestNumLowestFirst(t *testing.T) {
	b := []byte{0xF1, 0xE2, 0xD3, 0xC4, 0xB5, 0xA6, 0x97, 0x88, 0x79}
	for n, want := range map[int]uint64{1: 0xF1, 2: 0xE2F1, 4: 0xC4D3E2F1, 8: 0x8897A6B5C4D3E2F1} {
		r := New(b)
		if x, e := r.Num(n); x != want || e != api.OK {
			t.Errorf("%d: %x %v", n, x, e)
		}
		wantPlace(t, r, n, len(b)-n)
	}
	r := New(b)
	r.Skip(7)
	if x, e := r.Num(2); x != 0x7988 || e != api.OK || r.Left() != 0 {
		t.Errorf("%x %v", x, e)
	}
}

// P1.2: only 1, 2, 4 and 8 are widths, and that is asked first; then the bytes that are left.
func TestNumRefuses(t *testing.T) {
	for _, n := range []int{math.MinInt, -8, -1, 0, 3, 5, 6, 7, 9, 16, 256, math.MaxInt} {
		for _, b := range [][]byte{nil, {1}, make([]byte, 20)} {
			if x, e := New(b).Num(n); x != 0 || e != api.ErrArg {
				t.Error(n, len(b), x, e)
			}
		}
	}
	for _, n := range []int{1, 2, 4, 8} {
		for left := range n {
			if x, e := New(slices.Repeat([]byte{0xFF}, left)).Num(n); x != 0 || e != api.ErrShort {
				t.Error(n, left, x, e)
			}
		}
	}
}

// P1.2: packed numbers at the edges of one, two and four bytes.
func TestPackedEdges(t *testing.T) {
	for _, c := range packed() {
		r := New(append(slices.Clone(c.b), 0xFF))
		if n, e := r.Packed(); n != c.n || e != api.OK {
			t.Errorf("% x: %d %v", c.b, n, e)
		}
		wantPlace(t, r, len(c.b), 1)
		if n, e := New(c.b).Packed(); n != c.n || e != api.OK {
			t.Errorf("% x at the end: %d %v", c.b, n, e)
		}
	}
}

func packed() []struct {
	n int
	b []byte
} {
	return []struct {
		n int
		b []byte
	}{
		{0, []byte{0}},
		{1, []byte{1}},
		{127, []byte{0x7F}},
		{128, []byte{0x80, 0x80}},
		{255, []byte{0x80, 0xFF}},
		{256, []byte{0x81, 0}},
		{0x1234, []byte{0x92, 0x34}},
		{16383, []byte{0xBF, 0xFF}},
		{16384, []byte{0xC0, 0, 0x40, 0}},
		{65535, []byte{0xC0, 0, 0xFF, 0xFF}},
		{65536, []byte{0xC0, 1, 0, 0}},
		{0x12345678, []byte{0xD2, 0x34, 0x56, 0x78}},
		{536870911, []byte{0xDF, 0xFF, 0xFF, 0xFF}},
	}
}

// P1.2: what isn't a packed number, and which error is told first.
func TestPackedRefuses(t *testing.T) {
	for _, c := range []struct {
		b []byte
		e api.Errno
	}{
		{nil, api.ErrShort},
		{[]byte{0x80}, api.ErrShort},
		{[]byte{0xBF}, api.ErrShort},
		{[]byte{0xC0}, api.ErrShort},
		{[]byte{0xC0, 0}, api.ErrShort},
		{[]byte{0xC0, 0, 0}, api.ErrShort},
		{[]byte{0xDF, 0xFF, 0xFF}, api.ErrShort},
		{[]byte{0xE0}, api.ErrForm},
		{[]byte{0xE0, 0, 0, 0}, api.ErrForm},
		{[]byte{0xE1, 0xFF, 0xFF, 0xFF}, api.ErrForm},
		{[]byte{0xF0, 1}, api.ErrForm},
		{[]byte{0xFF}, api.ErrForm},
		{[]byte{0xFF, 0xFF, 0xFF, 0xFF, 0xFF}, api.ErrForm},
		{[]byte{0x80, 0}, api.ErrForm},
		{[]byte{0x80, 0x7F}, api.ErrForm},
		{[]byte{0xC0, 0, 0, 0}, api.ErrForm},
		{[]byte{0xC0, 0, 0, 0x7F}, api.ErrForm},
		{[]byte{0xC0, 0, 0, 0x80}, api.ErrForm},
		{[]byte{0xC0, 0, 0x3F, 0xFF}, api.ErrForm},
	} {
		r := New(c.b)
		if n, e := r.Packed(); n != 0 || e != c.e {
			t.Errorf("% x: %d %v, want %v", c.b, n, e, c.e)
		}
		wantPlace(t, r, 0, len(c.b))
	}
}

// P1.2: every first byte with every second one, held against the chapter's words.
func TestPackedOfAllPairs(t *testing.T) {
	for first := range 256 {
		for second := range 256 {
			n, at, want := 0, 0, api.OK
			switch {
			case first < 128:
				n, at = first, 1
			case first < 192:
				n, at = (first-128)*256+second, 2
				if n <= 127 {
					n, at, want = 0, 0, api.ErrForm
				}
			case first < 224:
				want = api.ErrShort
			default:
				want = api.ErrForm
			}
			r := New([]byte{byte(first), byte(second)})
			if k, e := r.Packed(); k != n || e != want || r.At() != at {
				t.Fatalf("%x %x: %d %v at %d", first, second, k, e, r.At())
			}
		}
	}
}

// P1.3: Take answers the next bytes, none among them.
func TestTake(t *testing.T) {
	r := New([]byte{1, 2, 3, 4, 5})
	for _, c := range []struct {
		n    int
		want []byte
	}{{0, nil}, {2, []byte{1, 2}}, {0, nil}, {3, []byte{3, 4, 5}}, {0, nil}} {
		if b, e := r.Take(c.n); e != api.OK || !slices.Equal(b, c.want) {
			t.Error(c.n, b, e)
		}
	}
	wantPlace(t, r, 5, 0)
	for _, n := range []int{1, 2, math.MaxInt} {
		if b, e := r.Take(n); len(b) != 0 || e != api.ErrShort {
			t.Error(n, b, e)
		}
	}
	for _, n := range []int{-1, -5, math.MinInt} {
		if b, e := r.Take(n); len(b) != 0 || e != api.ErrRange {
			t.Error(n, b, e)
		}
	}
}

// P1.3: a sum that wraps round is no way past the end.
func TestTakeAndSkipTooManyByFar(t *testing.T) {
	r := New([]byte{1, 2, 3})
	r.Skip(2)
	if b, e := r.Take(math.MaxInt); len(b) != 0 || e != api.ErrShort {
		t.Error(b, e)
	}
	if e := r.Skip(math.MaxInt); e != api.ErrShort {
		t.Error(e)
	}
	wantPlace(t, r, 2, 1)
}

// P1.3 and R4: what Take answers is nobody else's memory.
func TestTakeAnswersNewMemory(t *testing.T) {
	r := New([]byte{1, 2, 3, 4})
	b, _ := r.Take(2)
	spoil(b)
	c, e := r.Take(2)
	if e != api.OK || !slices.Equal(c, []byte{3, 4}) {
		t.Error(c, e)
	}
	spoil(c)
	if !slices.Equal(b, []byte{0xAA, 0xAA}) {
		t.Error(b)
	}
}

// P1.3: Skip goes on as Take does.
func TestSkip(t *testing.T) {
	r := New([]byte{1, 2, 3})
	for _, c := range []struct {
		n, at int
		e     api.Errno
	}{{0, 0, api.OK}, {4, 0, api.ErrShort}, {-1, 0, api.ErrRange}, {math.MinInt, 0, api.ErrRange}, {2, 2, api.OK}, {2, 2, api.ErrShort}, {1, 3, api.OK}, {1, 3, api.ErrShort}, {0, 3, api.OK}} {
		if e := r.Skip(c.n); e != c.e {
			t.Error(c, e)
		}
		wantPlace(t, r, c.at, 3-c.at)
	}
}

// P1.3: Done is OK when nothing is left, and not before.
func TestDone(t *testing.T) {
	r := New([]byte{1, 2})
	for range 2 {
		if e := r.Done(); e != api.ErrForm {
			t.Error(e)
		}
		r.Skip(1)
	}
	if e := r.Done(); e != api.OK {
		t.Error(e)
	}
	if e := New(nil).Done(); e != api.OK {
		t.Error(e)
	}
}

// P1.4: Put puts the lowest bytes, the lowest first, behind b.
func TestPut(t *testing.T) {
	const x = 0x8897A6B5C4D3E2F1
	all := []byte{0xF1, 0xE2, 0xD3, 0xC4, 0xB5, 0xA6, 0x97, 0x88}
	for _, n := range []int{1, 2, 4, 8} {
		for _, b := range [][]byte{nil, {}, {7}, {7, 8, 9}} {
			out, e := Put(b, x, n)
			if e != api.OK || !slices.Equal(out, slices.Concat(b, all[:n])) {
				t.Errorf("%d: % x %v", n, out, e)
			}
		}
	}
	for _, n := range []int{math.MinInt, -1, 0, 3, 5, 6, 7, 9, 16, math.MaxInt} {
		if out, e := Put([]byte{7}, x, n); len(out) != 0 || e != api.ErrArg {
			t.Error(n, out, e)
		}
	}
}

// P1.4: Pack puts packed numbers behind b; Size tells how many bytes.
func TestPackAndSize(t *testing.T) {
	for _, c := range packed() {
		for _, b := range [][]byte{nil, {}, {7}, {7, 8, 9}} {
			out, e := Pack(b, c.n)
			if e != api.OK || !slices.Equal(out, slices.Concat(b, c.b)) {
				t.Errorf("%d: % x %v", c.n, out, e)
			}
		}
		if Size(c.n) != len(c.b) {
			t.Error(c.n, Size(c.n))
		}
	}
	for _, n := range []int{math.MinInt, math.MinInt32, -536870911, -128, -1, 536870912, math.MaxInt32, math.MaxInt} {
		if out, e := Pack([]byte{7}, n); len(out) != 0 || e != api.ErrRange || Size(n) != 0 {
			t.Error(n, out, e, Size(n))
		}
	}
}

// P1.4 and R4: what is handed in isn't changed, its spare room included, and answers share nothing.
func TestPutAndPackAnswerNewMemory(t *testing.T) {
	calls := map[string]func([]byte) []byte{
		"Put":  func(b []byte) []byte { out, _ := Put(b, 0x0403, 2); return out },
		"Pack": func(b []byte) []byte { out, _ := Pack(b, 0x0403); return out },
	}
	for name, call := range calls {
		for _, b := range [][]byte{roomy(), roomy(1, 2)} {
			was := slices.Clone(b)
			first := call(b)
			kept := slices.Clone(first)
			spoil(call(b))
			if !slices.Equal(b, was) || !roomUntouched(b) {
				t.Error(name, "wrote into what was handed in")
			}
			if !slices.Equal(first, kept) {
				t.Error(name, "wrote into an earlier answer")
			}
			spoil(b)
			if !slices.Equal(first, kept) {
				t.Error(name, "answered what was handed in")
			}
		}
	}
}

// P1.5: Num reads back what Put put.
func TestPutIsReadBack(t *testing.T) {
	for _, n := range []int{1, 2, 4, 8} {
		for shift := range 64 {
			for _, x := range []uint64{1 << shift, 1<<shift - 1, ^uint64(1 << shift), 0x9E3779B97F4A7C15 << shift} {
				b, _ := Put([]byte{5}, x, n)
				r := New(b)
				r.Skip(1)
				want := x & (math.MaxUint64 >> (64 - 8*n))
				if y, e := r.Num(n); y != want || e != api.OK || r.Done() != api.OK {
					t.Fatalf("%x of %d bytes: %x %v", x, n, y, e)
				}
			}
		}
	}
}

// P1.5: Packed reads back what Pack put: all short ones, and a spread of the others.
func TestPackIsReadBack(t *testing.T) {
	check := func(n int) {
		b, e := Pack(nil, n)
		if e != api.OK || len(b) != Size(n) {
			t.Fatal(n, b, e)
		}
		r := New(b)
		if k, e := r.Packed(); k != n || e != api.OK || r.Done() != api.OK {
			t.Fatal(n, k, e)
		}
	}
	for n := range 1 << 17 {
		check(n)
	}
	for n := 1 << 17; n <= 536870911; n += 7919 {
		check(n)
	}
	for shift := range 29 {
		check(1 << shift)
		check(536870911 - 1<<shift)
	}
}

// P1.5: numbers of all kinds, one behind the other.
func TestManyAreReadBack(t *testing.T) {
	var b []byte
	for _, c := range packed() {
		b, _ = Pack(b, c.n)
		b, _ = Put(b, uint64(c.n), 4)
	}
	r := New(b)
	for _, c := range packed() {
		if n, e := r.Packed(); n != c.n || e != api.OK {
			t.Error(c.n, n, e)
		}
		if x, e := r.Num(4); x != uint64(c.n) || e != api.OK {
			t.Error(c.n, x, e)
		}
	}
	if e := r.Done(); e != api.OK {
		t.Error(e)
	}
}

// R1: of a reader that is not there: ErrNil ahead of every other error, 0, nothing.
func TestNilReader(t *testing.T) {
	var r *Reader
	wantPlace(t, r, 0, 0)
	for _, n := range []int{math.MinInt, -1, 0, 1, 2, 3, 8, math.MaxInt} {
		if x, e := r.Num(n); x != 0 || e != api.ErrNil {
			t.Error("Num", n, x, e)
		}
		if b, e := r.Take(n); len(b) != 0 || e != api.ErrNil {
			t.Error("Take", n, b, e)
		}
		if e := r.Skip(n); e != api.ErrNil {
			t.Error("Skip", n, e)
		}
	}
	if n, e := r.Packed(); n != 0 || e != api.ErrNil {
		t.Error("Packed", n, e)
	}
	if e := r.Done(); e != api.ErrNil {
		t.Error("Done", e)
	}
}
