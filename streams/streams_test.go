package streams

import (
	"bytes"
	"encoding/binary"
	"math"
	"slices"
	"testing"

	"cattlegrid/api"
)

// line is an entry of a head, as a test tells it.
type line struct {
	at, length uint32
	tag        string
}

// imageOf is a head of the lines, and size bytes in all, of which each behind the head is its own place's lowest byte.
func imageOf(size int, lines ...line) []byte {
	b := []byte("CGRD\x01\x00\x04\x00")
	for _, l := range lines {
		b = binary.LittleEndian.AppendUint32(b, l.at)
		b = binary.LittleEndian.AppendUint32(b, l.length)
		b = append(b, l.tag...)
	}
	for len(b) < size {
		b = append(b, byte(len(b)))
	}
	return b
}

// four is the lines of a head whose streams are all empty, at 56.
func four() []line {
	return []line{{56, 0, "ROWS"}, {56, 0, "NAME"}, {56, 0, "BLOB"}, {56, 0, "CODE"}}
}

// with is the lines of four, but the one of that number.
func with(i int, l line) []line {
	lines := four()
	l.tag = lines[i].tag
	lines[i] = l
	return lines
}

func same(s, t api.Streams) bool {
	return bytes.Equal(s.Rows, t.Rows) && bytes.Equal(s.Names, t.Names) && bytes.Equal(s.Blobs, t.Blobs) && bytes.Equal(s.Code, t.Code)
}

// spoil writes over b and its spare room.
func spoil(b []byte, x byte) {
	b = b[:cap(b)]
	for i := range b {
		b[i] = x
	}
}

func wantSplit(t *testing.T, b []byte, want api.Streams) {
	t.Helper()
	if s, at, e := Split(b); !same(s, want) || at != 0 || e != api.OK {
		t.Errorf("%q: %v %d %v", b[:min(len(b), 80)], s, at, e)
	}
}

func wantFault(t *testing.T, what string, b []byte, at int, want api.Errno) {
	t.Helper()
	if s, x, e := Split(b); !same(s, api.Streams{}) || x != at || e != want {
		t.Errorf("%s: at %d %v, want %d %v", what, x, e, at, want)
	}
}

func wantJoin(t *testing.T, s api.Streams, want string) {
	t.Helper()
	if b, e := Join(s); string(b) != want || e != api.OK {
		t.Errorf("%q %v, want %q", b, e, want)
	}
}

// P3.1: the streams of an image, with their own bytes.
func TestSplit(t *testing.T) {
	b := imageOf(70, line{56, 1, "ROWS"}, line{60, 4, "NAME"}, line{64, 2, "BLOB"}, line{68, 2, "CODE"})
	wantSplit(t, b, api.Streams{Rows: []byte{56}, Names: []byte{60, 61, 62, 63}, Blobs: []byte{64, 65}, Code: []byte{68, 69}})
	// Streams may lie in any order, with bytes between and behind that are no stream's.
	b = imageOf(90, line{80, 3, "ROWS"}, line{72, 4, "NAME"}, line{56, 2, "BLOB"}, line{64, 1, "CODE"})
	wantSplit(t, b, api.Streams{Rows: []byte{80, 81, 82}, Names: []byte{72, 73, 74, 75}, Blobs: []byte{56, 57}, Code: []byte{64}})
}

// P3.1: 56 bytes are enough, 55 are not; the length is told.
func TestSplitByLength(t *testing.T) {
	b := imageOf(56, four()...)
	wantSplit(t, b, api.Streams{})
	for n := range 56 {
		wantFault(t, "too short", b[:n], n, api.ErrShort)
		wantFault(t, "too short, and no head", make([]byte, n), n, api.ErrShort)
	}
	wantFault(t, "nil", nil, 0, api.ErrShort)
	wantFault(t, "no bytes", []byte{}, 0, api.ErrShort)
}

// P3.1: MaxImage bytes are split, one more are not, whatever they are.
func TestSplitUpToMaxImage(t *testing.T) {
	most := imageOf(api.MaxImage, with(3, line{56, api.MaxImage - 56, ""})...)
	wantSplit(t, most, api.Streams{Code: most[56:]})
	more := imageOf(api.MaxImage+1, with(3, line{56, api.MaxImage - 56, ""})...)
	wantFault(t, "one more", more, 0, api.ErrFull)
	wantFault(t, "one more, and no head", make([]byte, api.MaxImage+1), 0, api.ErrFull)
	wantFault(t, "many more", imageOf(3*api.MaxImage, four()...), 0, api.ErrFull)
	wantFault(t, "no head", make([]byte, api.MaxImage), 0, api.ErrForm)
}

// P3.1: each of the first three wrong by itself, by any of its bytes.
func TestSplitLooksAtTheBeginning(t *testing.T) {
	for i := range 8 {
		want := []int{0, 0, 0, 0, 4, 4, 6, 6}[i]
		for x := range 255 {
			b := imageOf(60, four()...)
			b[i] += byte(x + 1)
			wantFault(t, "beginning", b, want, api.ErrForm)
		}
	}
}

// P3.1: of the first three the first that is wrong is told, ahead of all entries.
func TestSplitTellsTheBeginningFirst(t *testing.T) {
	b := imageOf(60, line{1, 999, "XXXX"}, line{1, 999, "XXXX"}, line{1, 999, "XXXX"}, line{1, 999, "XXXX"})
	wantFault(t, "entries", b, 8, api.ErrForm)
	b[6] = 3
	wantFault(t, "third", b, 6, api.ErrForm)
	b[4] = 0
	wantFault(t, "second", b, 4, api.ErrForm)
	b[3] = 'd'
	wantFault(t, "first", b, 0, api.ErrForm)
}

// P3.1: tags in any order pick their own streams.
func TestSplitTagsInAnyOrder(t *testing.T) {
	tags := []string{"ROWS", "NAME", "BLOB", "CODE"}
	tried := 0
	for x := range 256 {
		order := []int{x & 3, x >> 2 & 3, x >> 4 & 3, x >> 6}
		if sorted := slices.Sorted(slices.Values(order)); !slices.Equal(sorted, []int{0, 1, 2, 3}) {
			continue
		}
		tried++
		var lines []line
		var want [4][]byte
		for i, k := range order {
			lines = append(lines, line{uint32(56 + 4*i), 2, tags[k]})
			want[k] = []byte{byte(56 + 4*i), byte(57 + 4*i)}
		}
		wantSplit(t, imageOf(72, lines...), api.Streams{Rows: want[0], Names: want[1], Blobs: want[2], Code: want[3]})
	}
	if tried != 24 {
		t.Error(tried)
	}
}

// P3.1: a tag that was there is told where it stands again.
func TestSplitTagTwice(t *testing.T) {
	for i := range 4 {
		for j := range i {
			lines := four()
			lines[i].tag = lines[j].tag
			wantFault(t, "twice", imageOf(60, lines...), 8+12*i, api.ErrForm)
		}
	}
}

// P3.1: a tag that is none.
func TestSplitTagThatIsNone(t *testing.T) {
	for i := range 4 {
		for _, tag := range []string{"XXXX", "rows", "ROW\x00", "\x00\x00\x00\x00", "ROWs", "SWOR", "AME\x00", "CGRD", "COD ", "BLOP"} {
			lines := four()
			lines[i].tag = tag
			wantFault(t, tag, imageOf(60, lines...), 8+12*i, api.ErrForm)
		}
	}
}

// P3.1: a place is from 56 on, and a multiple of 4, of empty streams too.
func TestSplitPlaces(t *testing.T) {
	for i := range 4 {
		for at := range uint32(73) {
			for _, length := range []uint32{0, 1} {
				b := imageOf(80, with(i, line{at, length, ""})...)
				if at < 56 || at%4 != 0 {
					wantFault(t, "place", b, 8+12*i, api.ErrRange)
				} else if _, x, e := Split(b); x != 0 || e != api.OK {
					t.Error(i, at, length, x, e)
				}
			}
		}
	}
	wantFault(t, "the greatest", imageOf(80, with(1, line{math.MaxUint32, 0, ""})...), 20, api.ErrRange)
}

// P3.1: a stream that ends with the image is within it, one that ends a byte behind it is not.
func TestSplitEnds(t *testing.T) {
	for i := range 4 {
		place := 8 + 12*i
		for size := 56; size < 70; size++ {
			for at := uint32(56); at <= uint32(size); at += 4 {
				fits := uint32(size) - at
				if _, x, e := Split(imageOf(size, with(i, line{at, fits, ""})...)); x != 0 || e != api.OK {
					t.Error(i, size, at, x, e)
				}
				wantFault(t, "a byte behind", imageOf(size, with(i, line{at, fits + 1, ""})...), place, api.ErrShort)
			}
		}
		for _, size := range []int{56, 57, 58, 59} {
			wantFault(t, "empty, behind the image", imageOf(size, with(i, line{60, 0, ""})...), place, api.ErrShort)
		}
	}
}

// P3.1: numbers of four bytes whose sum isn't one.
func TestSplitGreatNumbers(t *testing.T) {
	const most = math.MaxUint32
	for _, l := range []line{{56, most, ""}, {56, most - 55, ""}, {60, most - 59, ""}, {56, 1 << 31, ""}, {1 << 31, 1 << 31, ""}, {most - 3, 0, ""}, {most - 3, 4, ""}, {most - 3, 60, ""}, {most - 3, most, ""}} {
		for i := range 4 {
			wantFault(t, "great", imageOf(80, with(i, l)...), 8+12*i, api.ErrShort)
		}
	}
}

// shareByte is whether a byte's place is in both, told by looking at each.
func shareByte(a, b line) bool {
	for x := a.at; x < a.at+a.length; x++ {
		if x >= b.at && x < b.at+b.length {
			return true
		}
	}
	return false
}

// P3.1: streams that touch, that share bytes, that lie within each other, and empty ones anywhere.
func TestSplitStreamsShareNoByte(t *testing.T) {
	for x := range uint32(5 * 11) {
		for y := range uint32(5 * 11) {
			a, b := line{56 + 4*(x%5), x / 5, "NAME"}, line{56 + 4*(y%5), y / 5, "CODE"}
			image := imageOf(90, line{56, 0, "BLOB"}, a, line{72, 0, "ROWS"}, b)
			if shareByte(a, b) {
				wantFault(t, "shared", image, 44, api.ErrForm)
				continue
			}
			wantSplit(t, image, api.Streams{Names: image[a.at : a.at+a.length], Code: image[b.at : b.at+b.length]})
		}
	}
}

// P3.1: each stream is held against all that are ahead of it, and the later one's place is told.
func TestSplitTellsWhoShares(t *testing.T) {
	for i := range 4 {
		for j := range i {
			lines := four()
			for k := range lines {
				lines[k].at, lines[k].length = uint32(56+4*k), 4
			}
			for _, c := range [][2]line{{{72, 5, ""}, {76, 4, ""}}, {{76, 4, ""}, {72, 5, ""}}} {
				lines[j].at, lines[j].length = c[0].at, c[0].length
				lines[i].at, lines[i].length = c[1].at, c[1].length
				wantFault(t, "one byte", imageOf(90, lines...), 8+12*i, api.ErrForm)
			}
		}
	}
}

// P3.1: empty streams at one place, within another one too.
func TestSplitEmptyStreams(t *testing.T) {
	wantSplit(t, imageOf(60, line{60, 0, "ROWS"}, line{60, 0, "NAME"}, line{56, 0, "BLOB"}, line{56, 0, "CODE"}), api.Streams{})
	b := imageOf(64, line{60, 0, "ROWS"}, line{56, 8, "NAME"}, line{60, 0, "BLOB"}, line{56, 0, "CODE"})
	wantSplit(t, b, api.Streams{Names: b[56:64]})
}

// P3.1: within an entry the tag is told first, then its place, then its end, then what it shares.
func TestSplitTellsInOrder(t *testing.T) {
	for i := range 4 {
		place := 8 + 12*i
		bad := func(what string, l line, want api.Errno) {
			t.Helper()
			lines := four()
			for k := range lines {
				lines[k].at = 60
			}
			lines[(i+3)%4].length = 8
			if l.tag == "" {
				l.tag = lines[i].tag
			}
			lines[i] = l
			// What is wrong behind an entry is told behind it.
			for k := i + 1; k < 4; k++ {
				lines[k] = line{3, 999, "none"}
			}
			wantFault(t, what, imageOf(70, lines...), place, want)
		}
		bad("all wrong", line{3, 999, "none"}, api.ErrForm)
		bad("tag and end", line{60, 999, "none"}, api.ErrForm)
		bad("tag and place", line{57, 0, "none"}, api.ErrForm)
		bad("place and end", line{57, 999, ""}, api.ErrRange)
		bad("place below and end", line{52, 999, ""}, api.ErrRange)
		bad("place, and shares", line{62, 1, ""}, api.ErrRange)
		bad("end, and shares", line{60, 999, ""}, api.ErrShort)
		if i > 0 {
			bad("shares", line{64, 1, ""}, api.ErrForm)
			bad("twice, and all wrong", line{3, 999, "ROWS"}, api.ErrForm)
		}
	}
}

// P3.1: the first entry that is wrong is told, whatever those behind it are.
func TestSplitTellsTheFirstEntry(t *testing.T) {
	b := imageOf(70, line{60, 999, "ROWS"}, line{57, 0, "NAME"}, line{56, 0, "none"}, line{56, 0, "CODE"})
	wantFault(t, "end", b, 8, api.ErrShort)
	b[12], b[13] = 4, 0
	wantFault(t, "place", b, 20, api.ErrRange)
	b[20] = 60
	b[24] = 1
	wantFault(t, "shares", b, 20, api.ErrForm)
	b[24] = 0
	wantFault(t, "tag", b, 32, api.ErrForm)
	copy(b[40:], "BLOB")
	wantSplit(t, b, api.Streams{Rows: []byte{60, 61, 62, 63}})
}

// P3.2: the image is told the plain way.
func TestJoin(t *testing.T) {
	wantJoin(t, api.Streams{Rows: []byte("r"), Names: []byte("name"), Code: []byte("co")},
		"CGRD\x01\x00\x04\x00"+
			"\x38\x00\x00\x00\x01\x00\x00\x00ROWS"+
			"\x3c\x00\x00\x00\x04\x00\x00\x00NAME"+
			"\x40\x00\x00\x00\x00\x00\x00\x00BLOB"+
			"\x40\x00\x00\x00\x02\x00\x00\x00CODE"+
			"r\x00\x00\x00nameco")
	wantJoin(t, api.Streams{Rows: []byte("rowsr"), Names: []byte("nam"), Blobs: []byte("bl"), Code: []byte("codec")},
		"CGRD\x01\x00\x04\x00"+
			"\x38\x00\x00\x00\x05\x00\x00\x00ROWS"+
			"\x40\x00\x00\x00\x03\x00\x00\x00NAME"+
			"\x44\x00\x00\x00\x02\x00\x00\x00BLOB"+
			"\x48\x00\x00\x00\x05\x00\x00\x00CODE"+
			"rowsr\x00\x00\x00nam\x00bl\x00\x00codec")
}

// P3.2: nothing has 56 bytes, all four places 56.
func TestJoinOfNothing(t *testing.T) {
	want := string(imageOf(56, four()...))
	wantJoin(t, api.Streams{}, want)
	wantJoin(t, api.Streams{Rows: []byte{}, Names: []byte{}, Blobs: []byte{}, Code: []byte{}}, want)
}

// P3.2: the image ends with the last stream, at that one's place if it is empty.
func TestJoinEndsWithTheLast(t *testing.T) {
	for n := range 9 {
		some := bytes.Repeat([]byte{9}, n)
		up := (n + 3) / 4 * 4
		if b, e := Join(api.Streams{Code: some}); len(b) != 56+n || e != api.OK {
			t.Error("last", n, len(b), e)
		}
		for i, s := range []api.Streams{{Rows: some}, {Names: some}, {Blobs: some}} {
			b, e := Join(s)
			if len(b) != 56+up || e != api.OK || !bytes.Equal(b[56:56+n], some) {
				t.Error(i, n, len(b), e)
				continue
			}
			if rest := bytes.Trim(b[56+n:], "\x00"); len(rest) != 0 {
				t.Error(i, n, rest)
			}
		}
	}
}

// P3.2: an image of MaxImage bytes is made, one of a byte more is not, whichever streams make it so long.
func TestJoinUpToMaxImage(t *testing.T) {
	const room = api.MaxImage - 56
	some := func(n int) []byte { return bytes.Repeat([]byte{7}, n) }
	for i, s := range []api.Streams{{Rows: some(room)}, {Names: some(room)}, {Blobs: some(room)}, {Code: some(room)},
		{Rows: some(room - 3)}, {Rows: some(room - 4), Code: some(4)}, {Rows: some(room - 7), Blobs: some(1)}, {Rows: some(1), Code: some(room - 4)},
		{Rows: some(1), Names: some(1), Blobs: some(1), Code: some(room - 12)}} {
		b, e := Join(s)
		if len(b) != api.MaxImage || e != api.OK {
			t.Error(i, len(b), e)
		}
		wantSplit(t, b, s)
	}
	for i, s := range []api.Streams{{Rows: some(room + 1)}, {Names: some(room + 1)}, {Blobs: some(room + 1)}, {Code: some(room + 1)},
		{Rows: some(room), Code: some(1)}, {Rows: some(room - 3), Code: some(1)}, {Rows: some(room - 4), Code: some(5)}, {Rows: some(1), Code: some(room - 3)},
		{Rows: some(1), Names: some(1), Blobs: some(1), Code: some(room - 11)}, {Rows: some(room), Names: some(room), Blobs: some(room), Code: some(room)},
		{Names: some(api.MaxImage)}, {Blobs: some(3 * api.MaxImage)}} {
		if b, e := Join(s); len(b) != 0 || e != api.ErrFull {
			t.Error(i, len(b), e)
		}
	}
}

// P3.3: split of join is what was joined.
func TestSplitOfJoin(t *testing.T) {
	for x := range 6 * 6 * 6 * 6 {
		of := func(n int, by byte) []byte { return bytes.Repeat([]byte{by}, n%6) }
		s := api.Streams{Rows: of(x, 1), Names: of(x/6, 'N'), Blobs: of(x/36, 0), Code: of(x/216, 0xFF)}
		b, e := Join(s)
		if e != api.OK {
			t.Fatal(x, e)
		}
		wantSplit(t, b, s)
	}
	// Streams that hold heads and tags of their own.
	inner, _ := Join(api.Streams{Rows: []byte("ROWS")})
	s := api.Streams{Rows: inner, Names: []byte("NAMECODE"), Blobs: bytes.Repeat(inner, 50), Code: []byte("CGRD")}
	b, _ := Join(s)
	wantSplit(t, b, s)
}

// R1: Split ends without a panic at bytes of all kinds, and what it lets through lies as the chapter says.
func TestSplitOfAnyBytes(t *testing.T) {
	x := uint32(1)
	next := func(n uint32) uint32 {
		x = x*1664525 + 1013904223
		return x >> 8 % n
	}
	fine := 0
	for range 20000 {
		b := imageOf(56+int(next(30)), line{56 + 4*next(5), next(9), "ROWS"}, line{56 + 4*next(5), next(9), "NAME"}, line{56 + 4*next(5), next(9), "BLOB"}, line{56 + 4*next(5), next(9), "CODE"})
		if next(3) == 0 {
			b[next(uint32(len(b)))] = byte(next(256))
		}
		s, at, e := Split(b)
		if e != api.OK {
			if !same(s, api.Streams{}) || at != len(b) && !slices.Contains([]int{0, 4, 6, 8, 20, 32, 44}, at) {
				t.Fatal(at, e)
			}
			continue
		}
		fine++
		if total := len(s.Rows) + len(s.Names) + len(s.Blobs) + len(s.Code); at != 0 || total > len(b)-56 {
			t.Fatal(at, total, len(b))
		}
	}
	if fine < 100 {
		t.Error("too few were let through:", fine)
	}
}

// R4: Split changes nothing of what is handed in, and its streams are nobody else's memory.
func TestSplitAnswersNewMemory(t *testing.T) {
	room := imageOf(90, line{56, 5, "ROWS"}, line{64, 4, "NAME"}, line{68, 4, "BLOB"}, line{72, 7, "CODE"})
	b, was := room[:79], slices.Clone(room)
	first, _, _ := Split(b)
	second, _, _ := Split(b)
	for _, l := range [][]byte{second.Rows, second.Names, second.Blobs, second.Code} {
		spoil(l, 0xAA)
	}
	want := api.Streams{Rows: was[56:61], Names: was[64:68], Blobs: was[68:72], Code: was[72:79]}
	if !bytes.Equal(room, was) || !same(first, want) {
		t.Error(room, first)
	}
	spoil(b, 0x55)
	if !same(first, want) {
		t.Error(first)
	}
	spoil(first.Rows, 0xAA)
	spoil(first.Blobs, 0xAA)
	if !bytes.Equal(first.Names, want.Names) || !bytes.Equal(first.Code, want.Code) {
		t.Error(first)
	}
}

// R4: Join changes nothing of what is handed in, spare room included, and its image is new.
func TestJoinAnswersNewMemory(t *testing.T) {
	room := []byte{1, 2, 3, 4, 5, 6, 7, 8, 9, 10, 11, 12}
	was := slices.Clone(room)
	s := api.Streams{Rows: room[:1], Names: room[2:5], Blobs: room[5:5], Code: room[2:8]}
	first, _ := Join(s)
	want := slices.Clone(first)
	second, _ := Join(s)
	spoil(second, 0xAA)
	if !bytes.Equal(room, was) || !bytes.Equal(first, want) {
		t.Error(room, first)
	}
	spoil(room, 0x55)
	if !bytes.Equal(first, want) {
		t.Error(first)
	}
	none, _ := Join(api.Streams{})
	spoil(none, 0xAA)
	wantJoin(t, api.Streams{}, string(imageOf(56, four()...)))
}
