package pool

import (
	"bytes"
	"math"
	"slices"
	"strconv"
	"strings"
	"testing"

	"cattlegrid/api"
	"cattlegrid/octet"
)

// spoil writes over b and its spare room.
func spoil[T any](b []T, x T) {
	b = b[:cap(b)]
	for i := range b {
		b[i] = x
	}
}

// wide is n names of 24 bytes, no two alike: 25 bytes of a pool each.
func wide(n int) []string {
	l := make([]string, n)
	for i := range l {
		s := strconv.Itoa(i)
		l[i] = strings.Repeat("n", api.MaxName-len(s)) + s
	}
	return l
}

func wantNames(t *testing.T, l []string, pool string, places ...int) {
	t.Helper()
	b, at, e := Names(l)
	if e != api.OK || string(b) != pool || !slices.Equal(at, places) {
		t.Errorf("%q: %q %v %v", l, b, at, e)
	}
}

func wantNoNames(t *testing.T, what string, l []string, want api.Errno) {
	t.Helper()
	if b, at, e := Names(l); len(b) != 0 || len(at) != 0 || e != want {
		t.Errorf("%s: %d bytes, %d places, %v, want %v", what, len(b), len(at), e, want)
	}
}

func wantBlobs(t *testing.T, l [][]byte, pool []byte, places ...int) {
	t.Helper()
	b, at, e := Blobs(l)
	if e != api.OK || !bytes.Equal(b, pool) || !slices.Equal(at, places) {
		t.Errorf("% x: % x %v %v", l, b, at, e)
	}
}

func wantNoBlobs(t *testing.T, what string, l [][]byte) {
	t.Helper()
	if b, at, e := Blobs(l); len(b) != 0 || len(at) != 0 || e != api.ErrFull {
		t.Errorf("%s: %d bytes, %d places, %v", what, len(b), len(at), e)
	}
}

// P2.1: a name has 1 to MaxName bytes.
func TestFineByLength(t *testing.T) {
	for n := range 60 {
		if Fine(strings.Repeat("x", n)) != (n >= 1 && n <= 24) {
			t.Error(n)
		}
	}
	if Fine(strings.Repeat("x", api.MaxImage)) {
		t.Error("as long as a pool")
	}
}

// P2.1: its bytes are from 33 to 126, wherever they stand.
func TestFineByBytes(t *testing.T) {
	for x := range 256 {
		want := x >= 33 && x <= 126
		one := string([]byte{byte(x)})
		full := strings.Repeat("x", 23)
		for _, s := range []string{one, one + "a", "a" + one, "a" + one + "a", one + full, full + one} {
			if Fine(s) != want {
				t.Errorf("%q", s)
			}
		}
	}
	for _, s := range []string{"é", "aé", "名", "\xff", "a\x00", "\x00"} {
		if Fine(s) {
			t.Errorf("%q", s)
		}
	}
}

// P2.1: each name once, in the order in which they come first; each one's place.
func TestNames(t *testing.T) {
	full := strings.Repeat("~", api.MaxName)
	wantNames(t, []string{"a", "b", "a"}, "\x00a\x00b\x00", 1, 3, 1)
	wantNames(t, []string{"b", "a", "b", "b", "a"}, "\x00b\x00a\x00", 1, 3, 1, 1, 3)
	wantNames(t, []string{"!", full, "!", full}, "\x00!\x00"+full+"\x00", 1, 3, 1, 3)
	wantNames(t, []string{"ab", "b", "a", "abc", "ab"}, "\x00ab\x00b\x00a\x00abc\x00", 1, 4, 6, 8, 1)
	wantNames(t, nil, "\x00")
	wantNames(t, []string{}, "\x00")
}

// P2.1: one that isn't a name, at any place of the list.
func TestNamesRefusesWhatIsNone(t *testing.T) {
	for _, s := range []string{"", " ", "a b", "a ", "\x7f", "a\x7f", "a\x00b", "\x00", "é", strings.Repeat("a", 25)} {
		for _, l := range [][]string{{s}, {s, "a"}, {"a", s}, {"a", "a", s, "b"}} {
			wantNoNames(t, strconv.Quote(s), l, api.ErrName)
		}
	}
}

// P2.1: a pool of MaxImage bytes is made, one of a byte more is not.
func TestNamesUpToMaxImage(t *testing.T) {
	// 1 byte, 2621 names of 25 bytes, and one of 10: 65536.
	l := append(wide(2621), "123456789")
	b, at, e := Names(l)
	if e != api.OK || len(b) != api.MaxImage || len(at) != len(l) || at[2621] != api.MaxImage-10 {
		t.Fatal(len(b), len(at), e)
	}
	for i, s := range l {
		if x, e := Name(b, at[i]); x != s || e != api.OK {
			t.Fatal(i, s, x, e)
		}
	}
	if b, at, e := Names(append(slices.Clone(l), l...)); e != api.OK || len(b) != api.MaxImage || len(at) != 2*len(l) {
		t.Error("what stands already needs room:", len(b), len(at), e)
	}
	wantNoNames(t, "one byte more", append(wide(2621), "123456789x"), api.ErrFull)
	wantNoNames(t, "one name more", append(slices.Clone(l), "x"), api.ErrFull)
	wantNoNames(t, "many more", wide(4000), api.ErrFull)
}

// P2.1: what isn't a name is told ahead of a pool that would be full.
func TestNamesTellsNamesFirst(t *testing.T) {
	wantNoNames(t, "behind", append(wide(4000), ""), api.ErrName)
	wantNoNames(t, "ahead", append([]string{""}, wide(4000)...), api.ErrName)
}

// P2.2: the name at a place.
func TestName(t *testing.T) {
	full := strings.Repeat("~", api.MaxName)
	for _, c := range []struct {
		pool string
		at   int
		want string
	}{
		{"\x00a\x00", 1, "a"},
		{"\x00a\x00!\x00", 3, "!"},
		{"\x00" + full + "\x00", 1, full},
		{"\x00" + full + "\x00more", 1, full},
		{"\x00a" + full + "\x00", 2, full},
		{"\x00ab\x00\x00", 1, "ab"},
		{"xab\x00", 1, "ab"},
		{"\x00\x7fab\x00", 2, "ab"},
	} {
		if s, e := Name([]byte(c.pool), c.at); s != c.want || e != api.OK {
			t.Errorf("%q at %d: %q %v", c.pool, c.at, s, e)
		}
	}
}

// P2.2: places that no name has, names that don't end, and what is no name.
func TestNameRefuses(t *testing.T) {
	long := strings.Repeat("a", 25)
	for _, c := range []struct {
		pool string
		at   int
		want api.Errno
	}{
		{"", 0, api.ErrRange},
		{"", 1, api.ErrRange},
		{"", -1, api.ErrRange},
		{"\x00", 0, api.ErrRange},
		{"\x00", 1, api.ErrRange},
		{"\x00a\x00", 0, api.ErrRange},
		{"a\x00", 0, api.ErrRange},
		{"\x00a\x00", -1, api.ErrRange},
		{"\x00a\x00", 3, api.ErrRange},
		{"\x00a\x00", 4, api.ErrRange},
		{"\x00a\x00", math.MinInt, api.ErrRange},
		{"\x00a\x00", math.MaxInt, api.ErrRange},
		{"\x00a", 1, api.ErrShort},
		{"\x00a\x00b", 3, api.ErrShort},
		{"\x00 ", 1, api.ErrShort},
		{"\x00" + long, 1, api.ErrShort},
		{"\x00a\x00", 2, api.ErrName},
		{"\x00\x00", 1, api.ErrName},
		{"\x00a\x00b\x00", 2, api.ErrName},
		{"\x00 \x00", 1, api.ErrName},
		{"\x00a\x1fb\x00", 1, api.ErrName},
		{"\x00a\x7f\x00", 1, api.ErrName},
		{"\x00a\xff\x00", 1, api.ErrName},
		{"\x00" + long + "\x00", 1, api.ErrName},
	} {
		if s, e := Name([]byte(c.pool), c.at); s != "" || e != c.want {
			t.Errorf("%q at %d: %q %v, want %v", c.pool, c.at, s, e, c.want)
		}
	}
	for _, at := range []int{-1, 0, 1} {
		if s, e := Name(nil, at); s != "" || e != api.ErrRange {
			t.Error("of no pool", at, s, e)
		}
	}
}

// P2.2: Name looks at whatever is handed in, longer than a pool that Names makes, too.
func TestNameInALongPool(t *testing.T) {
	b := append(bytes.Repeat([]byte{7}, 2*api.MaxImage), "ab\x00"...)
	if s, e := Name(b, len(b)-3); s != "ab" || e != api.OK {
		t.Error(s, e)
	}
	if s, e := Name(b, 1); s != "" || e != api.ErrName {
		t.Error(len(s), e)
	}
}

// P2.3: each blob that isn't empty once, in the order in which they come first; each one's place.
func TestBlobs(t *testing.T) {
	wantBlobs(t, [][]byte{{1, 2}, nil, {1, 2}, {3}}, []byte{0, 2, 1, 2, 1, 3}, 1, 0, 1, 4)
	wantBlobs(t, [][]byte{{9}, {8}, {9}, {8}, {}}, []byte{0, 1, 9, 1, 8}, 1, 3, 1, 3, 0)
	wantBlobs(t, [][]byte{{0}, {0, 0}, {0}}, []byte{0, 1, 0, 2, 0, 0}, 1, 3, 1)
	wantBlobs(t, [][]byte{{2, 1}, {1}, {1, 2}}, []byte{0, 2, 2, 1, 1, 1, 2, 1, 2}, 1, 4, 6)
	wantBlobs(t, [][]byte{{0xFF, 0xFE}, {0xFF, 0xFD}}, []byte{0, 2, 0xFF, 0xFE, 2, 0xFF, 0xFD}, 1, 4)
	wantBlobs(t, [][]byte{nil, {}, nil}, []byte{0}, 0, 0, 0)
	wantBlobs(t, nil, []byte{0})
	wantBlobs(t, [][]byte{}, []byte{0})
}

// P2.3: lengths are packed numbers, of one, two and four bytes.
func TestBlobsTellLengthsPacked(t *testing.T) {
	for _, n := range []int{1, 127, 128, 255, 256, 16383, 16384} {
		b := bytes.Repeat([]byte{7}, n)
		length, _ := octet.Pack(nil, n)
		wantBlobs(t, [][]byte{b, {5}, b}, slices.Concat([]byte{0}, length, b, []byte{1, 5}), 1, 1+len(length)+n, 1)
	}
}

// P2.3: a pool of MaxImage bytes is made, one of a byte more is not.
func TestBlobsUpToMaxImage(t *testing.T) {
	// The byte 0, and four for the length.
	most := make([]byte, api.MaxImage-5)
	wantBlobs(t, [][]byte{most, nil, most}, slices.Concat([]byte{0, 0xC0, 0, 0xFF, 0xFB}, most), 1, 0, 1)
	wantNoBlobs(t, "one byte more", [][]byte{make([]byte, api.MaxImage-4)})
	wantNoBlobs(t, "one blob more", [][]byte{most, {1}})
	wantNoBlobs(t, "MaxImage", [][]byte{make([]byte, api.MaxImage)})
	wantNoBlobs(t, "beyond MaxImage", [][]byte{nil, make([]byte, api.MaxImage+1)})

	less := make([]byte, api.MaxImage-7)
	if b, at, e := Blobs([][]byte{less, {1}, {1}, nil, less}); e != api.OK || len(b) != api.MaxImage || !slices.Equal(at, []int{1, api.MaxImage - 2, api.MaxImage - 2, 0, 1}) {
		t.Error(len(b), at, e)
	}
	wantNoBlobs(t, "the last is a byte too long", [][]byte{less, {1, 2}})
}

// P2.3: the blob at a place.
func TestBlob(t *testing.T) {
	for _, c := range []struct {
		pool []byte
		at   int
		want []byte
	}{
		{[]byte{0}, 0, nil},
		{[]byte{0, 1, 7}, 0, nil},
		{[]byte{0, 1, 7}, 1, []byte{7}},
		{[]byte{0, 2, 7, 8, 1, 9}, 1, []byte{7, 8}},
		{[]byte{0, 2, 7, 8, 1, 9}, 4, []byte{9}},
		{[]byte{0, 2, 1, 8, 1, 9}, 2, []byte{8}},
		{[]byte{2, 7, 8}, 0, []byte{7, 8}},
		{[]byte{5, 0}, 1, nil},
		{slices.Concat([]byte{0, 0x80, 0x80}, make([]byte, 128)), 1, make([]byte, 128)},
	} {
		if b, e := Blob(c.pool, c.at); !bytes.Equal(b, c.want) || e != api.OK {
			t.Errorf("% x at %d: % x %v", c.pool, c.at, b, e)
		}
	}
}

// P2.3: places that no blob has, and layer 1's errors.
func TestBlobRefuses(t *testing.T) {
	for _, c := range []struct {
		pool []byte
		at   int
		want api.Errno
	}{
		{nil, -1, api.ErrRange},
		{nil, 0, api.ErrRange},
		{nil, 1, api.ErrRange},
		{[]byte{}, 0, api.ErrRange},
		{[]byte{0}, 1, api.ErrRange},
		{[]byte{0, 1, 7}, -1, api.ErrRange},
		{[]byte{0, 1, 7}, 3, api.ErrRange},
		{[]byte{0, 1, 7}, 4, api.ErrRange},
		{[]byte{0, 1, 7}, math.MinInt, api.ErrRange},
		{[]byte{0, 1, 7}, math.MaxInt, api.ErrRange},
		{[]byte{0, 1}, 1, api.ErrShort},
		{[]byte{0, 3, 7, 8}, 1, api.ErrShort},
		{[]byte{0, 0x80}, 1, api.ErrShort},
		{[]byte{0, 0xC0, 0, 0x40}, 1, api.ErrShort},
		{[]byte{0, 0x80, 0x80, 1}, 1, api.ErrShort},
		{[]byte{0, 0xDF, 0xFF, 0xFF, 0xFF, 1}, 1, api.ErrShort},
		{[]byte{0, 0xE0}, 1, api.ErrForm},
		{[]byte{0, 0xFF, 1, 2, 3}, 1, api.ErrForm},
		{[]byte{0, 0x80, 1, 7}, 1, api.ErrForm},
		{[]byte{0, 0xC0, 0, 0, 1, 7}, 1, api.ErrForm},
	} {
		if b, e := Blob(c.pool, c.at); len(b) != 0 || e != c.want {
			t.Errorf("% x at %d: % x %v, want %v", c.pool, c.at, b, e, c.want)
		}
	}
}

// P2.4: names are found at their places, and of each its rests at the places within it.
func TestNamesAreFound(t *testing.T) {
	l := slices.Concat([]string{"!", "~", "main", "a", "ain", "main", "aa", strings.Repeat("q", 24)}, wide(300), wide(7))
	b, at, e := Names(l)
	if e != api.OK || len(at) != len(l) {
		t.Fatal(len(at), e)
	}
	for i, s := range l {
		for j := range len(s) {
			if x, e := Name(b, at[i]+j); x != s[j:] || e != api.OK {
				t.Fatal(s, j, x, e)
			}
		}
		if x, e := Name(b, at[i]+len(s)); x != "" || e != api.ErrName {
			t.Fatal(s, "behind it", x, e)
		}
	}
}

// P2.4: blobs are found at their places, whatever their lengths and bytes.
func TestBlobsAreFound(t *testing.T) {
	var l [][]byte
	for n := range 140 {
		l = append(l, bytes.Repeat([]byte{byte(n)}, n), []byte{byte(n)}, bytes.Repeat([]byte{0}, n))
	}
	l = append(l, make([]byte, 16383), make([]byte, 16384), nil)
	l = append(l, l...)
	b, at, e := Blobs(l)
	if e != api.OK || len(at) != len(l) {
		t.Fatal(len(at), e)
	}
	places := map[string]int{}
	for i, x := range l {
		if y, e := Blob(b, at[i]); !bytes.Equal(x, y) || e != api.OK {
			t.Fatal(i, len(x), len(y), e)
		}
		if was, ok := places[string(x)]; ok && was != at[i] {
			t.Fatal(i, "stands twice, at", was, at[i])
		}
		places[string(x)] = at[i]
		if (at[i] == 0) != (len(x) == 0) {
			t.Fatal(i, len(x), at[i])
		}
	}
}

// R4: what is handed in isn't changed, and answers share nothing with it or with each other.
func TestNamesAnswersNewMemory(t *testing.T) {
	l := []string{"a", "bc", "a", "spare"}[:3]
	b, at, _ := Names(l)
	c, places, _ := Names(l)
	spoil(c, 0xAA)
	spoil(places, -7)
	if string(b) != "\x00a\x00bc\x00" || !slices.Equal(at, []int{1, 3, 1}) {
		t.Errorf("%q %v", b, at)
	}
	if !slices.Equal(l[:4], []string{"a", "bc", "a", "spare"}) {
		t.Error(l[:4])
	}
	spoil(l, "zz")
	if s, e := Name(b, 3); s != "bc" || e != api.OK {
		t.Error(s, e)
	}
	none, _, _ := Names(nil)
	spoil(none, 0xAA)
	wantNames(t, nil, "\x00")
}

// R4: a name that was answered stays, whatever becomes of the pool.
func TestNameAnswersNewMemory(t *testing.T) {
	b := []byte("\x00abc\x00")
	s, _ := Name(b, 1)
	if string(b) != "\x00abc\x00" {
		t.Errorf("%q", b)
	}
	spoil(b, 'x')
	if s != "abc" {
		t.Error(s)
	}
}

// R4: likewise of blobs, the spare room of what is handed in included.
func TestBlobsAnswersNewMemory(t *testing.T) {
	room := []byte{1, 2, 0xEE, 0xEE}
	l := [][]byte{room[:2], nil, {3}, room[:2]}
	b, at, _ := Blobs(l)
	c, places, _ := Blobs(l)
	spoil(c, 0xAA)
	spoil(places, -7)
	if !bytes.Equal(b, []byte{0, 2, 1, 2, 1, 3}) || !slices.Equal(at, []int{1, 0, 4, 1}) {
		t.Error(b, at)
	}
	if !bytes.Equal(room, []byte{1, 2, 0xEE, 0xEE}) || len(l[1]) != 0 || !bytes.Equal(l[2], []byte{3}) {
		t.Error(room, l)
	}
	spoil(room, 0x55)
	if !bytes.Equal(b, []byte{0, 2, 1, 2, 1, 3}) {
		t.Error(b)
	}
	none, _, _ := Blobs(nil)
	spoil(none, 0xAA)
	wantBlobs(t, nil, []byte{0})
}

// R4: a blob that was answered is nobody else's memory.
func TestBlobAnswersNewMemory(t *testing.T) {
	pool := []byte{0, 2, 1, 2, 1, 3, 0xEE, 0xEE}[:6]
	first, _ := Blob(pool, 1)
	second, _ := Blob(pool, 1)
	spoil(second, 0xAA)
	if !bytes.Equal(first, []byte{1, 2}) || !bytes.Equal(pool[:8], []byte{0, 2, 1, 2, 1, 3, 0xEE, 0xEE}) {
		t.Error(first, pool[:8])
	}
	spoil(pool, 0x55)
	if !bytes.Equal(first, []byte{1, 2}) {
		t.Error(first)
	}
}
