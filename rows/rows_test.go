package rows

import (
	"bytes"
	"encoding/binary"
	"math"
	"slices"
	"testing"

	"cattlegrid/api"
)

// widths are how many bytes the columns have, table by table, as the chapter tells them; 1 stands for a name, 3 for a blob.
var widths = [6][]int{{2, 1, 2, 2, 2}, {2, 1, 3}, {4, 2, 2, 1, 3, 2}, {2, 2}, {3}, {3}}

// streamOf is the stream of t with these marks and this byte of tables, whether or not Write would tell it so.
func streamOf(marks, there byte, t api.Tables) []byte {
	b := []byte{marks, there}
	for i, rows := range t.Rows {
		if there>>i&1 == 1 {
			b = binary.LittleEndian.AppendUint16(b, uint16(len(rows)))
		}
	}
	b = binary.LittleEndian.AppendUint16(b, uint16(t.Entry))
	for i, rows := range t.Rows {
		for _, row := range rows {
			for k, x := range row {
				w := widths[i][k]
				if w == 4 || w == 1 && marks&1 != 0 || w == 3 && marks&2 != 0 {
					b = binary.LittleEndian.AppendUint32(b, uint32(x))
				} else {
					b = binary.LittleEndian.AppendUint16(b, uint16(x))
				}
			}
		}
	}
	return b
}

// thereOf is the byte of tables of the plain way.
func thereOf(t api.Tables) byte {
	there := byte(0)
	for i, rows := range t.Rows {
		if len(rows) > 0 {
			there |= 1 << i
		}
	}
	return there
}

// filled is tables with n rows each, whose numbers tell table, row and column.
func filled(n int) api.Tables {
	t := api.Tables{Entry: 0x1234, Rows: make([][][]int, 6)}
	for i := range t.Rows {
		for j := range n {
			row := make([]int, len(widths[i]))
			for k := range row {
				row[k] = 256*(16*i+j+1) + 16*k + 1
			}
			t.Rows[i] = append(t.Rows[i], row)
		}
	}
	return t
}

// one is tables of which the i-th has one row, of zeros but for x in column k.
func one(i, k, x int) api.Tables {
	t := filled(0)
	row := make([]int, len(widths[i]))
	row[k] = x
	t.Rows[i] = [][]int{row}
	return t
}

func copyOf(t api.Tables) api.Tables {
	c := api.Tables{Entry: t.Entry, Rows: make([][][]int, len(t.Rows))}
	for i, rows := range t.Rows {
		for _, row := range rows {
			c.Rows[i] = append(c.Rows[i], slices.Clone(row))
		}
	}
	return c
}

func same(s, t api.Tables) bool {
	return s.Entry == t.Entry && slices.EqualFunc(s.Rows, t.Rows, func(a, b [][]int) bool {
		return slices.EqualFunc(a, b, slices.Equal[[]int])
	})
}

func wantRead(t *testing.T, what string, b []byte, want api.Tables) {
	t.Helper()
	if x, at, e := Read(b); !same(x, want) || at != 0 || e != api.OK {
		t.Errorf("%s: %v %d %v, want %v", what, x, at, e, want)
	}
}

func wantFault(t *testing.T, what string, b []byte, at int, want api.Errno) {
	t.Helper()
	if x, place, e := Read(b); x.Entry != 0 || len(x.Rows) != 0 || place != at || e != want {
		t.Errorf("%s: %v %d %v, want %d %v", what, x, place, e, at, want)
	}
}

func wantWrite(t *testing.T, what string, x api.Tables, want []byte) {
	t.Helper()
	if b, e := Write(x); !bytes.Equal(b, want) || e != api.OK {
		t.Errorf("%s: % x %v, want % x", what, b, e, want)
	}
}

func wantRefused(t *testing.T, what string, x api.Tables, want api.Errno) {
	t.Helper()
	if b, e := Write(x); len(b) != 0 || e != want {
		t.Errorf("%s: %d bytes %v, want %v", what, len(b), e, want)
	}
}

// P4.1: each table, and the numbers beside them.
func TestColumns(t *testing.T) {
	for table, want := range []int{5, 3, 6, 2, 1, 1} {
		if n := Columns(table); n != want {
			t.Errorf("%d: %d, want %d", table, n, want)
		}
	}
	for _, table := range []int{-1, 6, 7, 64, -2, math.MinInt, math.MaxInt} {
		if n := Columns(table); n != 0 {
			t.Errorf("%d: %d, want 0", table, n)
		}
	}
}

// P4.2: a stream that is told byte by byte here.
func TestRead(t *testing.T) {
	b := []byte{
		0, 0x3f, 1, 0, 2, 0, 1, 0, 1, 0, 1, 0, 1, 0, 0x34, 0x12,
		1, 0x10, 2, 0x20, 3, 0x30, 4, 0x40, 5, 0x50,
		6, 0, 7, 0, 8, 0,
		9, 0, 10, 0, 255, 255,
		1, 2, 3, 0xff, 5, 0, 6, 0, 7, 0, 8, 0, 9, 0,
		11, 0, 12, 0,
		13, 0,
		14, 1,
	}
	wantRead(t, "all tables", b, api.Tables{Entry: 0x1234, Rows: [][][]int{
		{{0x1001, 0x2002, 0x3003, 0x4004, 0x5005}},
		{{6, 7, 8}, {9, 10, 65535}},
		{{0xff030201, 5, 6, 7, 8, 9}},
		{{11, 12}},
		{{13}},
		{{0x10e}},
	}})
	wantRead(t, "no rows", []byte{0, 0, 0, 0}, api.Tables{Rows: make([][][]int, 6)})
	wantRead(t, "Entry alone", []byte{0, 0, 255, 255}, api.Tables{Entry: 65535, Rows: make([][][]int, 6)})
}

// P4.2: the marks make names and blobs wide, each by itself, both and none, and no other column.
func TestReadMarks(t *testing.T) {
	for marks := range byte(4) {
		x := filled(2)
		for i := range x.Rows {
			for k, w := range widths[i] {
				if w == 4 || w == 1 && marks&1 != 0 || w == 3 && marks&2 != 0 {
					x.Rows[i][1][k] = math.MaxUint32 - i
				} else {
					x.Rows[i][1][k] = math.MaxUint16 - i
				}
			}
		}
		wantRead(t, "marks", streamOf(marks, 63, x), x)
	}
	wantRead(t, "a wide name", []byte{1, 2, 1, 0, 0, 0, 9, 0, 1, 2, 3, 4, 5, 6}, api.Tables{Rows: [][][]int{nil, {{9, 0x04030201, 0x0605}}, nil, nil, nil, nil}})
	wantRead(t, "a wide blob", []byte{2, 2, 1, 0, 0, 0, 9, 0, 1, 2, 3, 4, 5, 6}, api.Tables{Rows: [][][]int{nil, {{9, 0x0201, 0x06050403}}, nil, nil, nil, nil}})
	for marks := 4; marks < 256; marks++ {
		wantFault(t, "marks above 3", []byte{byte(marks), 0, 0, 0}, 0, api.ErrForm)
		wantFault(t, "marks above 3 alone", []byte{byte(marks)}, 0, api.ErrForm)
	}
}

// P4.2: any tables may be there, and one may be there with no rows.
func TestReadTablesThatAreThere(t *testing.T) {
	for there := range byte(64) {
		x, none := filled(2), filled(0)
		for i := range x.Rows {
			if there>>i&1 == 0 {
				x.Rows[i] = nil
			}
		}
		wantRead(t, "with rows", streamOf(0, there, x), x)
		wantRead(t, "with no rows", streamOf(0, there, none), none)
	}
	x := filled(1)
	x.Rows[2] = nil
	wantRead(t, "one with no rows among others", streamOf(3, 63, x), x)
	for there := 64; there < 256; there++ {
		wantFault(t, "byte of tables above 63", []byte{0, byte(there), 0, 0}, 1, api.ErrForm)
		wantFault(t, "byte of tables above 63 at the end", []byte{3, byte(there)}, 1, api.ErrForm)
	}
}

// P4.2: a stream that is cut off at each of its bytes tells its length.
func TestReadCutOff(t *testing.T) {
	for marks := range byte(4) {
		b := streamOf(marks, 63, filled(2))
		for n := range len(b) {
			wantFault(t, "cut off", b[:n], n, api.ErrShort)
		}
		one := filled(0)
		one.Rows[2] = filled(1).Rows[2]
		b = streamOf(marks, 4, one)
		for n := range len(b) {
			wantFault(t, "cut off, one table", b[:n], n, api.ErrShort)
		}
	}
	b := streamOf(0, 63, filled(0))
	for n := range len(b) {
		wantFault(t, "cut off, no rows", b[:n], n, api.ErrShort)
	}
	wantFault(t, "nil", nil, 0, api.ErrShort)
	wantFault(t, "no bytes", []byte{}, 0, api.ErrShort)
	wantFault(t, "the most rows, and none there", []byte{0, 63, 255, 255, 255, 255, 255, 255, 255, 255, 255, 255, 255, 255, 0, 0}, 16, api.ErrShort)
}

// P4.2: bytes behind the last row are told by the place of the first of them.
func TestReadBytesLeft(t *testing.T) {
	for n := range 3 {
		for marks := range byte(4) {
			b := streamOf(marks, 63, filled(n))
			wantFault(t, "a byte left", append(slices.Clone(b), 0), len(b), api.ErrForm)
			wantFault(t, "bytes left", append(slices.Clone(b), 1, 2, 3), len(b), api.ErrForm)
		}
	}
	wantFault(t, "a byte left, no tables", []byte{0, 0, 0, 0, 0}, 4, api.ErrForm)
}

// P4.2: what comes first in the stream is told, not what is worst.
func TestReadTellsTheFirst(t *testing.T) {
	wantFault(t, "marks, byte of tables", []byte{4, 64, 0, 0}, 0, api.ErrForm)
	wantFault(t, "marks, cut off", []byte{4, 1, 9}, 0, api.ErrForm)
	wantFault(t, "marks, bytes left", []byte{4, 0, 0, 0, 1}, 0, api.ErrForm)
	wantFault(t, "byte of tables, cut off", []byte{0, 64, 1}, 1, api.ErrForm)
	wantFault(t, "byte of tables, bytes left", []byte{0, 64, 0, 0, 1}, 1, api.ErrForm)
	wantFault(t, "cut off ahead of the byte of tables", []byte{3}, 1, api.ErrShort)
}

// R1, P4.2: whatever the bytes, Read ends, and tells a place within them or at their end.
func TestReadOfAnyBytes(t *testing.T) {
	seed := uint32(1)
	for n := range 3000 {
		b := make([]byte, n%80)
		for i := range b {
			seed = seed*1664525 + 1013904223
			b[i] = byte(seed >> 24)
		}
		if len(b) > 12 {
			b[0] &= 3
			b[1] &= 63
			for i := 3; i < 12; i += 2 {
				b[i] = 0
			}
		}
		x, at, e := Read(b)
		if at < 0 || at > len(b) || e == api.OK && (at != 0 || len(x.Rows) != 6) || e != api.OK && len(x.Rows) != 0 {
			t.Fatalf("% x: %v %d %v", b, x, at, e)
		}
	}
}

// P4.3: the plain way.
func TestWrite(t *testing.T) {
	wantWrite(t, "no rows", api.Tables{Rows: make([][][]int, 6)}, []byte{0, 0, 0, 0})
	wantWrite(t, "no rows, empty lists", api.Tables{Rows: [][][]int{{}, {}, {}, {}, {}, {}}}, []byte{0, 0, 0, 0})
	wantWrite(t, "a method", one(2, 0, 0x01020304), []byte{0, 4, 1, 0, 0x34, 0x12, 4, 3, 2, 1, 0, 0, 0, 0, 0, 0, 0, 0, 0, 0})
	wantWrite(t, "two specs, a face", api.Tables{Entry: 1, Rows: [][][]int{nil, nil, nil, {{1, 258}}, {{3}, {4}}, nil}}, []byte{0, 0x18, 1, 0, 2, 0, 1, 0, 1, 0, 2, 1, 3, 0, 4, 0})
	for there := range byte(64) {
		x := filled(int(there%3) + 1)
		for i := range x.Rows {
			if there>>i&1 == 0 {
				x.Rows[i] = [][]int{}
			}
		}
		wantWrite(t, "some tables", x, streamOf(0, there, x))
	}
}

// P4.3: five, six and seven tables.
func TestWriteWantsSixTables(t *testing.T) {
	six := filled(1)
	wantWrite(t, "six", six, streamOf(0, 63, six))
	for n := range 6 {
		wantRefused(t, "fewer tables", api.Tables{Rows: six.Rows[:n]}, api.ErrArg)
		wantRefused(t, "fewer tables, all empty", api.Tables{Rows: make([][][]int, n)}, api.ErrArg)
	}
	wantRefused(t, "nil", api.Tables{}, api.ErrArg)
	wantRefused(t, "seven", api.Tables{Rows: make([][][]int, 7)}, api.ErrArg)
	wantRefused(t, "seven, with a row", api.Tables{Rows: append(filled(1).Rows, [][]int{{1}})}, api.ErrArg)
	wantRefused(t, "seven, with an empty row", api.Tables{Rows: append(filled(1).Rows, [][]int{nil})}, api.ErrArg)
}

// P4.3: in each table a row with a column too few, one too many, and none, in each place among its rows.
func TestWriteWantsTheColumns(t *testing.T) {
	for i := range 6 {
		for j := range 3 {
			for what, change := range map[string]func([]int) []int{
				"too few":  func(r []int) []int { return r[:len(r)-1] },
				"too many": func(r []int) []int { return append(r, 0) },
				"nil":      func([]int) []int { return nil },
				"empty":    func([]int) []int { return []int{} },
			} {
				x := filled(3)
				x.Rows[i][j] = change(x.Rows[i][j])
				wantRefused(t, what, x, api.ErrArg)
			}
		}
	}
}

// P4.3: in each column the number that fills it, one more, and below 0.
func TestWriteWantsNumbersThatFit(t *testing.T) {
	for i := range widths {
		for k, w := range widths[i] {
			most := math.MaxUint16
			if w == 4 {
				most = math.MaxUint32
			}
			for _, x := range []int{0, 255, 256, most} {
				wantWrite(t, "it fits", one(i, k, x), streamOf(0, 1<<i, one(i, k, x)))
			}
			for _, x := range []int{most + 1, -1, -most - 1, math.MaxInt, math.MinInt} {
				wantRefused(t, "it doesn't fit", one(i, k, x), api.ErrRange)
			}
			last := filled(3)
			last.Rows[i][2][k] = most + 1
			wantRefused(t, "the last row", last, api.ErrRange)
		}
	}
}

// P4.3: Entry 0 and 65535, one more, and below 0.
func TestWriteWantsAnEntryThatFits(t *testing.T) {
	for _, n := range []int{0, 1, 65535} {
		x := filled(1)
		x.Entry = n
		wantWrite(t, "it fits", x, streamOf(0, 63, x))
	}
	for _, n := range []int{65536, -1, math.MaxInt, math.MinInt, -65536} {
		x := filled(0)
		x.Entry = n
		wantRefused(t, "it doesn't fit", x, api.ErrRange)
	}
}

// P4.3: 65535 rows, and one more, in each table.
func TestWriteUpToTheMostRows(t *testing.T) {
	for i := range 6 {
		x := filled(0)
		row := filled(1).Rows[i][0]
		x.Rows[i] = slices.Repeat([][]int{row}, 65535)
		b, e := Write(x)
		if e != api.OK || !bytes.Equal(b, streamOf(0, 1<<i, x)) {
			t.Errorf("table %d: %d bytes %v", i, len(b), e)
		}
		if y, at, e := Read(b); !same(x, y) || at != 0 || e != api.OK {
			t.Errorf("table %d: read at %d %v", i, at, e)
		}
		x.Rows[i] = append(x.Rows[i], row)
		wantRefused(t, "one more", x, api.ErrRange)
	}
}

// P4.3, R2: what ErrArg is told of comes ahead of what ErrRange is told of, wherever both stand.
func TestWriteTellsTheFirst(t *testing.T) {
	wantRefused(t, "five tables, Entry", api.Tables{Entry: -1, Rows: make([][][]int, 5)}, api.ErrArg)
	wantRefused(t, "no tables, Entry", api.Tables{Entry: 65536}, api.ErrArg)
	x := one(0, 0, -1)
	x.Rows[5] = [][]int{nil}
	wantRefused(t, "a number, then a row", x, api.ErrArg)
	x = one(5, 0, 65536)
	x.Rows[0] = [][]int{{1, 2, 3, 4}}
	wantRefused(t, "a row, then a number", x, api.ErrArg)
	x = filled(0)
	x.Rows[1] = slices.Repeat([][]int{{1, 2, 3}}, 65536)
	x.Rows[4] = [][]int{{1}, {1, 2}}
	wantRefused(t, "rows, then a row", x, api.ErrArg)
	x.Rows[1] = slices.Repeat([][]int{nil}, 65536)
	x.Rows[4] = nil
	wantRefused(t, "too many rows, and they nil", x, api.ErrArg)
	x = filled(1)
	x.Entry = -1
	x.Rows[3][0] = []int{1}
	wantRefused(t, "Entry, a row", x, api.ErrArg)
	x = one(3, 1, -1)
	x.Rows[3][0] = append(x.Rows[3][0], -1)
	wantRefused(t, "both in one row", x, api.ErrArg)
}

// P4.4: rows 0, 1, 16383 and 16384 of both tables.
func TestCode(t *testing.T) {
	for _, c := range []struct{ table, row, want int }{
		{0, 1, 4}, {0, 2, 8}, {0, 16383, 65532}, {4, 1, 6}, {4, 2, 10}, {4, 16383, 65534},
		{-1, 0, 0}, {-1, 1, 0}, {-1, -1, 0}, {-1, 16384, 0}, {-1, math.MinInt, 0}, {-1, math.MaxInt, 0},
	} {
		if x, e := Code(c.table, c.row); x != c.want || e != api.OK {
			t.Errorf("%v: %d %v", c, x, e)
		}
	}
	for _, table := range []int{0, 4} {
		for _, row := range []int{0, 16384, -1, 65536, math.MaxInt, math.MinInt} {
			if x, e := Code(table, row); x != 0 || e != api.ErrRange {
				t.Errorf("%d, %d: %d %v", table, row, x, e)
			}
		}
	}
}

// P4.4: no other table has a code, whatever the row.
func TestCodeOfOtherTables(t *testing.T) {
	for _, table := range []int{-2, 1, 2, 3, 5, 6, math.MaxInt, math.MinInt} {
		for _, row := range []int{1, 0, 16383, 16384, -1} {
			if x, e := Code(table, row); x != 0 || e != api.ErrArg {
				t.Errorf("%d, %d: %d %v", table, row, x, e)
			}
		}
	}
}

// P4.4: every number of two bytes, with all tags and row 0 among them.
func TestCoded(t *testing.T) {
	for x := range 65536 {
		table, row, e := Coded(x)
		wantTable, wantRow, want := 0, 0, api.ErrToken
		switch {
		case x == 0:
			wantTable, want = -1, api.OK
		case x&3 == 0:
			wantRow, want = x>>2, api.OK
		case x&3 == 2 && x > 2:
			wantTable, wantRow, want = 4, x>>2, api.OK
		}
		if table != wantTable || row != wantRow || e != want {
			t.Fatalf("%d: %d %d %v", x, table, row, e)
		}
		if y, f := Code(table, row); e == api.OK && (y != x || f != api.OK) {
			t.Fatalf("%d: code %d %v", x, y, f)
		}
	}
	for _, x := range []int{65536, 65538, 65540, -1, -2, -4, -6, -65536, math.MaxInt, math.MinInt} {
		if table, row, e := Coded(x); table != 0 || row != 0 || e != api.ErrToken {
			t.Errorf("%d: %d %d %v", x, table, row, e)
		}
	}
}

// P4.5: Read of Write, with tables of many shapes and numbers.
func TestReadOfWrite(t *testing.T) {
	seed := uint32(7)
	next := func(n int) int {
		seed = seed*1664525 + 1013904223
		return int(uint64(seed) * uint64(n) >> 32)
	}
	for range 300 {
		x := api.Tables{Entry: next(65536), Rows: make([][][]int, 6)}
		for i := range x.Rows {
			for range next(5) {
				var row []int
				for _, w := range widths[i] {
					if w == 4 {
						row = append(row, next(1<<32))
					} else {
						row = append(row, next(1<<16))
					}
				}
				x.Rows[i] = append(x.Rows[i], row)
			}
		}
		b, e := Write(x)
		if e != api.OK || !bytes.Equal(b, streamOf(0, thereOf(x), x)) {
			t.Fatalf("%v: % x %v", x, b, e)
		}
		wantRead(t, "written", b, x)
	}
}

// R4: what is handed in isn't changed, and isn't kept.
func TestArgumentsStay(t *testing.T) {
	x := filled(3)
	for i := range x.Rows {
		x.Rows[i] = append(make([][]int, 0, 9), x.Rows[i]...)
		spare := x.Rows[i][:9]
		for j := 3; j < 9; j++ {
			spare[j] = []int{7}
		}
	}
	before := copyOf(x)
	b, e := Write(x)
	if e != api.OK || !same(x, before) {
		t.Fatal("Write changed its tables", e)
	}
	for i := range x.Rows {
		for _, row := range x.Rows[i][:9][3:] {
			if !slices.Equal(row, []int{7}) {
				t.Error("Write changed spare room")
			}
		}
	}
	room := append(make([]byte, 0, len(b)+20), b...)
	for i := len(b); i < cap(room); i++ {
		room = append(room, 0xee)
	}
	kept := slices.Clone(room)
	y, _, e := Read(room[:len(b)])
	if e != api.OK || !bytes.Equal(room, kept) {
		t.Fatal("Read changed its bytes", e)
	}
	clear(room)
	if !same(y, before) {
		t.Error("Read keeps its bytes")
	}
}

// R4: each answer is memory of its own.
func TestAnswersAreNew(t *testing.T) {
	want := filled(3)
	b, _ := Write(want)
	c, _ := Write(want)
	clear(b[:cap(b)])
	if !bytes.Equal(c, streamOf(0, 63, want)) {
		t.Error("two answers of Write share memory")
	}
	x, _, _ := Read(c)
	y, _, _ := Read(c)
	for _, rows := range x.Rows {
		for _, row := range rows {
			clear(row[:cap(row)])
		}
		clear(rows[:cap(rows)])
	}
	clear(x.Rows[:cap(x.Rows)])
	if !same(y, want) {
		t.Error("two answers of Read share memory")
	}
}

// R4: each list of an answer is memory of its own: what is written over one, spare room included, stays there.
func TestListsAreApart(t *testing.T) {
	b, _ := Write(filled(3))
	for i := range 6 {
		for j := range 3 {
			x, _, _ := Read(b)
			want := copyOf(x)
			row := x.Rows[i][j]
			clear(row[:cap(row)])
			clear(want.Rows[i][j])
			if !same(x, want) {
				t.Errorf("row %d of table %d isn't apart", j, i)
			}
		}
		x, _, _ := Read(b)
		want := copyOf(x)
		rows := x.Rows[i]
		clear(rows[:cap(rows)])
		clear(want.Rows[i])
		if !same(x, want) {
			t.Errorf("table %d isn't apart", i)
		}
	}
}
